/-
  No statement is proved here: what MayWind of the program answers; condition: the numbers are within their kinds.
-/
import Derived.Test.YtibkocbfcdddfaaMayS
import Derived.Test.YtibkocbfcdddfaaOpenM
import Derived.Test.YtibkocbfcdddfaaSnS
import Derived.Deep.RegionHeld3
namespace Go.Proofs.Ytibkocbfcdddfaa
open Go.ChangeShapes Go.WideShapes Go.ChangeAt Go.RowKit

/-- What the program asks of strands and meets. -/
def codeS (m : Nat → Int) (ss : List Sn) : Int := if (meetsB m && allS ss) = true then (if ss.length ≤ 8 then 0 else 3) else 1

set_option maxRecDepth 100000 in
set_option maxHeartbeats 2000000 in
theorem strandsCode_any (m : Nat → Int) (v : Value) (ss : List Sn) (w : World) (h8 : Bytes6 m) (h : Strands w v ss) (hn : ss.length ≤ 1048576) :
    Calls Try.prog 32 #[mv m, v] w fun e w' => e = .returned (.int .i64 (codeS m ss)) ∧ Below w.heap.size w w' := by
  have HM := Lib.hid fun wx => implMeets_any m wx h8
  have HV := Lib.hid fun wx hx => implStrands_any v ss wx hx hn
  have HS := Lib.hid (h.below ((Below.refl _ _).alloc (Nat.le_refl _) (.cells #[.int .u8 (m 0), .int .u8 (m 1), .int .u8 (m 2), .int .u8 (m 3), .int .u8 (m 4), .int .u8 (m 5)] 31)))
  obtain ⟨a0, c0, rfl⟩ := h.len
  clear h
  unfold mv at *
  cases h1 : meetsB m with
  | false =>
    rw [show codeS m ss = 1 by unfold codeS; rw [h1]; rfl]
    rw [h1] at HM
    clear h1 HV
    go_enter Try.func32, Try.ntmps32
    go_wp2_with fail
    refine (HM.out _).mono ?_
    rintro e w1 ⟨rfl, hB⟩
    have B1 := Lib.hid (((Below.refl w.heap.size w).alloc (Nat.le_refl _) _).trans (hB.mono (by simp)))
    clear hB
    go_wp2
    go_ret
    exact ⟨rfl, B1.out⟩
  | true =>
    rw [h1] at HM
    cases h2 : allS ss with
    | false =>
      rw [show codeS m ss = 1 by unfold codeS; rw [h2]; simp]
      rw [h2] at HV
      clear h1 h2
      go_enter Try.func32, Try.ntmps32
      go_wp2_with fail
      refine (HM.out _).mono ?_
      rintro e w1 ⟨rfl, hB⟩
      have B1 := Lib.hid (((Below.refl w.heap.size w).alloc (Nat.le_refl _) _).trans (hB.mono (by simp)))
      have S1 := Lib.hid (HS.out.below hB)
      clear hB HS
      go_wp2_with fail
      refine (HV.out _ S1.out).mono ?_
      rintro e w2 ⟨rfl, hB⟩
      have B2 := Lib.hid (B1.out.trans (hB.mono B1.out.size))
      clear hB
      go_wp2
      go_ret
      exact ⟨rfl, B2.out⟩
    | true =>
      rw [h2] at HV
      by_cases h3 : ss.length ≤ 8
      · rw [show codeS m ss = 0 by unfold codeS; rw [h1, h2]; simp [h3]]
        clear h1 h2
        generalize ss.length = n at *
        go_enter Try.func32, Try.ntmps32
        go_wp2_with fail
        refine (HM.out _).mono ?_
        rintro e w1 ⟨rfl, hB⟩
        have B1 := Lib.hid (((Below.refl w.heap.size w).alloc (Nat.le_refl _) _).trans (hB.mono (by simp)))
        have S1 := Lib.hid (HS.out.below hB)
        clear hB HS
        go_wp2_with fail
        refine (HV.out _ S1.out).mono ?_
        rintro e w2 ⟨rfl, hB⟩
        have B2 := Lib.hid (B1.out.trans (hB.mono B1.out.size))
        clear hB
        go_wp2
        go_ret
        exact ⟨rfl, B2.out⟩
      · rw [show codeS m ss = 3 by unfold codeS; rw [h1, h2]; simp [h3]]
        have h3' : 8 < ss.length := by omega
        clear h1 h2
        generalize ss.length = n at *
        go_enter Try.func32, Try.ntmps32
        go_wp2_with fail
        refine (HM.out _).mono ?_
        rintro e w1 ⟨rfl, hB⟩
        have B1 := Lib.hid (((Below.refl w.heap.size w).alloc (Nat.le_refl _) _).trans (hB.mono (by simp)))
        have S1 := Lib.hid (HS.out.below hB)
        clear hB HS
        go_wp2_with fail
        refine (HV.out _ S1.out).mono ?_
        rintro e w2 ⟨rfl, hB⟩
        have B2 := Lib.hid (B1.out.trans (hB.mono B1.out.size))
        clear hB
        go_wp2
        go_ret
        exact ⟨rfl, B2.out⟩

/-- The facts on the three boxes, under one name. -/
def Held3 (w W : World) (m : Nat → Int) (a1 b1 : Int) (da db : Nat) : Prop := W.cell? ⟨w.heap.size, 0, none⟩ = some (.int .u8 (m 0)) ∧ W.cell? ⟨w.heap.size, 1, none⟩ = some (.int .u8 (m 1)) ∧ W.cell? ⟨w.heap.size, 2, none⟩ = some (.int .u8 (m 2)) ∧ W.cell? ⟨w.heap.size, 3, none⟩ = some (.int .u8 (m 3)) ∧ W.cell? ⟨w.heap.size, 4, none⟩ = some (.int .u8 (m 4)) ∧ W.cell? ⟨w.heap.size, 5, none⟩ = some (.int .u8 (m 5)) ∧ W.cell? ⟨w.heap.size + 1, 0, none⟩ = some (.int .i16 a1) ∧ W.cell? ⟨w.heap.size + 1, 1, none⟩ = some (.int .u8 da) ∧ W.cell? ⟨w.heap.size + 2, 0, none⟩ = some (.int .i16 b1) ∧ W.cell? ⟨w.heap.size + 2, 1, none⟩ = some (.int .u8 db) ∧ Below w.heap.size w W ∧ w.heap.size + 2 < W.heap.size
theorem held3_id {w W : World} {m : Nat → Int} {a1 b1 : Int} {da db : Nat} (h : W.cell? ⟨w.heap.size, 0, none⟩ = some (.int .u8 (m 0)) ∧ W.cell? ⟨w.heap.size, 1, none⟩ = some (.int .u8 (m 1)) ∧ W.cell? ⟨w.heap.size, 2, none⟩ = some (.int .u8 (m 2)) ∧ W.cell? ⟨w.heap.size, 3, none⟩ = some (.int .u8 (m 3)) ∧ W.cell? ⟨w.heap.size, 4, none⟩ = some (.int .u8 (m 4)) ∧ W.cell? ⟨w.heap.size, 5, none⟩ = some (.int .u8 (m 5)) ∧ W.cell? ⟨w.heap.size + 1, 0, none⟩ = some (.int .i16 a1) ∧ W.cell? ⟨w.heap.size + 1, 1, none⟩ = some (.int .u8 da) ∧ W.cell? ⟨w.heap.size + 2, 0, none⟩ = some (.int .i16 b1) ∧ W.cell? ⟨w.heap.size + 2, 1, none⟩ = some (.int .u8 db) ∧ Below w.heap.size w W ∧ w.heap.size + 2 < W.heap.size) : Held3 w W m a1 b1 da db := h
theorem held3_raw {w W : World} {m : Nat → Int} {a1 b1 : Int} {da db : Nat} (h : Held3 w W m a1 b1 da db) : W.cell? ⟨w.heap.size, 0, none⟩ = some (.int .u8 (m 0)) ∧ W.cell? ⟨w.heap.size, 1, none⟩ = some (.int .u8 (m 1)) ∧ W.cell? ⟨w.heap.size, 2, none⟩ = some (.int .u8 (m 2)) ∧ W.cell? ⟨w.heap.size, 3, none⟩ = some (.int .u8 (m 3)) ∧ W.cell? ⟨w.heap.size, 4, none⟩ = some (.int .u8 (m 4)) ∧ W.cell? ⟨w.heap.size, 5, none⟩ = some (.int .u8 (m 5)) ∧ W.cell? ⟨w.heap.size + 1, 0, none⟩ = some (.int .i16 a1) ∧ W.cell? ⟨w.heap.size + 1, 1, none⟩ = some (.int .u8 da) ∧ W.cell? ⟨w.heap.size + 2, 0, none⟩ = some (.int .i16 b1) ∧ W.cell? ⟨w.heap.size + 2, 1, none⟩ = some (.int .u8 db) ∧ Below w.heap.size w W ∧ w.heap.size + 2 < W.heap.size := h
theorem held3_drew {w W : World} {m : Nat → Int} {a1 b1 : Int} {da db : Nat} (h : Held3 w W m a1 b1 da db) : Held3 w W.drew m a1 b1 da db := by
  obtain ⟨h0, h1, h2, h3, h4, h5, h6, h7, h8, h9, hb, hz⟩ := h
  exact ⟨h0, h1, h2, h3, h4, h5, h6, h7, h8, h9, hb.drew, hz⟩
theorem held3_below {w W W' : World} {m : Nat → Int} {a1 b1 : Int} {da db : Nat} (h : Held3 w W m a1 b1 da db) (hB : Below W.heap.size W W') : Held3 w W' m a1 b1 da db := by
  obtain ⟨h0, h1, h2, h3, h4, h5, h6, h7, h8, h9, hb, hz⟩ := h
  have k : ∀ {b o : Nat} {v : Value}, W.cell? ⟨b, o, none⟩ = some v → W'.cell? ⟨b, o, none⟩ = some v := fun hc => (hB.cell (p := ⟨_, _, none⟩) (World.block_lt_of_cell? W _ hc)).trans hc
  exact ⟨k h0, k h1, k h2, k h3, k h4, k h5, k h6, k h7, k h8, k h9, hb.trans (hB.mono hb.size), Nat.lt_of_lt_of_le hz hB.size⟩
theorem held3_next {w W W' : World} {m : Nat → Int} {a1 b1 : Int} {da db : Nat} (h : W.cell? ⟨w.heap.size, 0, none⟩ = some (.int .u8 (m 0)) ∧ W.cell? ⟨w.heap.size, 1, none⟩ = some (.int .u8 (m 1)) ∧ W.cell? ⟨w.heap.size, 2, none⟩ = some (.int .u8 (m 2)) ∧ W.cell? ⟨w.heap.size, 3, none⟩ = some (.int .u8 (m 3)) ∧ W.cell? ⟨w.heap.size, 4, none⟩ = some (.int .u8 (m 4)) ∧ W.cell? ⟨w.heap.size, 5, none⟩ = some (.int .u8 (m 5)) ∧ W.cell? ⟨w.heap.size + 1, 0, none⟩ = some (.int .i16 a1) ∧ W.cell? ⟨w.heap.size + 1, 1, none⟩ = some (.int .u8 da) ∧ W.cell? ⟨w.heap.size + 2, 0, none⟩ = some (.int .i16 b1) ∧ W.cell? ⟨w.heap.size + 2, 1, none⟩ = some (.int .u8 db) ∧ Below w.heap.size w W ∧ w.heap.size + 2 < W.heap.size) (hB : Below W.heap.size W W') : W'.cell? ⟨w.heap.size, 0, none⟩ = some (.int .u8 (m 0)) ∧ W'.cell? ⟨w.heap.size, 1, none⟩ = some (.int .u8 (m 1)) ∧ W'.cell? ⟨w.heap.size, 2, none⟩ = some (.int .u8 (m 2)) ∧ W'.cell? ⟨w.heap.size, 3, none⟩ = some (.int .u8 (m 3)) ∧ W'.cell? ⟨w.heap.size, 4, none⟩ = some (.int .u8 (m 4)) ∧ W'.cell? ⟨w.heap.size, 5, none⟩ = some (.int .u8 (m 5)) ∧ W'.cell? ⟨w.heap.size + 1, 0, none⟩ = some (.int .i16 a1) ∧ W'.cell? ⟨w.heap.size + 1, 1, none⟩ = some (.int .u8 da) ∧ W'.cell? ⟨w.heap.size + 2, 0, none⟩ = some (.int .i16 b1) ∧ W'.cell? ⟨w.heap.size + 2, 1, none⟩ = some (.int .u8 db) ∧ Below w.heap.size w W' ∧ w.heap.size + 2 < W'.heap.size := held3_raw (held3_below (held3_id h) hB)
theorem held3_made (w : World) (t u : TypeId) (m : Nat → Int) (a1 b1 : Int) (da db : Nat) : Held3 w (((w.alloc (.cells #[.int .u8 (m 0), .int .u8 (m 1), .int .u8 (m 2), .int .u8 (m 3), .int .u8 (m 4), .int .u8 (m 5)] t)).alloc (.cells #[.int .i16 a1, .int .u8 da] u)).alloc (.cells #[.int .i16 b1, .int .u8 db] u)) m a1 b1 da db := by
  have M0 := ((mAt_made w t m).below ((Below.refl _ _).alloc (Nat.le_refl _) (.cells #[.int .i16 a1, .int .u8 da] u)) (by simp)).below ((Below.refl _ _).alloc (Nat.le_refl _) (.cells #[.int .i16 b1, .int .u8 db] u)) (by simp only [World.size_alloc]; omega)
  exact ⟨M0 0 (by omega), M0 1 (by omega), M0 2 (by omega), M0 3 (by omega), M0 4 (by omega), M0 5 (by omega), by simp [go_sem], by simp [go_sem], by simp [go_sem], by simp [go_sem],
    (((Below.refl w.heap.size w).alloc (Nat.le_refl _) _).alloc (by simp) _).alloc (by simp only [World.size_alloc]; omega) _, by simp only [World.size_alloc]; omega⟩

set_option maxRecDepth 100000 in
set_option maxHeartbeats 4000000 in
theorem implMay_any (m : Nat → Int) (a1 b1 : Int) (da db : Nat) (w : World) (h8 : Bytes6 m) (ha : IsSt (a1, (da : Int))) (hb : IsSt (b1, (db : Int))) :
    Calls Try.prog 17 #[mv m, .agg #[.int .i16 a1, .int .u8 da], .agg #[.int .i16 b1, .int .u8 db]] w fun e w' => e = .returned (.tuple #[.bool (mayF m a1 b1 da db).1, .int .i64 (mayF m a1 b1 da db).2]) ∧ Below w.heap.size w w' := by
  have H1 := Lib.hid fun b cap wx (hx : Strands wx (.slice (some ⟨b, 0, none⟩) 2 cap) [(a1, (da : Int)), (b1, (db : Int))]) => strandsCode_any m _ _ wx h8 hx (by simp)
  have hcode : codeS m [(a1, (da : Int)), (b1, (db : Int))] = if (meetsB m && (okS (a1, (da : Int)) && okS (b1, (db : Int)))) = true then 0 else 1 := by
    unfold codeS
    rw [allS_two]
    rfl
  rw [hcode] at H1
  have HA := Lib.hid ha
  have HB := Lib.hid hb
  have H0 := Lib.hid (held3_made w 31 39 m a1 b1 da db)
  have hX := h8 da
  have HST := Lib.hid (show Strands ((((w.alloc (.cells #[.int .u8 (m 0), .int .u8 (m 1), .int .u8 (m 2), .int .u8 (m 3), .int .u8 (m 4), .int .u8 (m 5)] 31)).alloc (.cells #[.int .i16 a1, .int .u8 da] 39)).alloc (.cells #[.int .i16 b1, .int .u8 db] 39)).alloc (.cells #[.int .i16 a1, .int .u8 da, .int .i16 b1, .int .u8 db] 39)) (.slice (some ⟨w.heap.size + 1 + 1 + 1, 0, none⟩) 2 2) [(a1, (da : Int)), (b1, (db : Int))] from by
    have hs := two_strands (((w.alloc (.cells #[.int .u8 (m 0), .int .u8 (m 1), .int .u8 (m 2), .int .u8 (m 3), .int .u8 (m 4), .int .u8 (m 5)] 31)).alloc (.cells #[.int .i16 a1, .int .u8 da] 39)).alloc (.cells #[.int .i16 b1, .int .u8 db] 39)) 39 a1 b1 da db ha hb 2
    simpa only [World.size_alloc] using hs)
  clear hcode h8
  unfold mv at *
  cases h1 : (meetsB m && (okS (a1, (da : Int)) && okS (b1, (db : Int)))) with
  | false =>
    rw [show mayF m a1 b1 da db = (false, 1) from if_neg (by rw [h1]; simp)]
    rw [h1] at H1
    clear h1
    obtain ⟨c0, c1, c2, c3, c4, c5, c6, c7, c8, c9, hbe, hz⟩ := H0.out
    go_enter Try.func17, Try.ntmps17
    go_wp2_with fail
    refine (H1.out (w.heap.size + 1 + 1 + 1) 2 ((((w.alloc (.cells #[.int .u8 (m 0), .int .u8 (m 1), .int .u8 (m 2), .int .u8 (m 3), .int .u8 (m 4), .int .u8 (m 5)] 31)).alloc (.cells #[.int .i16 a1, .int .u8 da] 39)).alloc (.cells #[.int .i16 b1, .int .u8 db] 39)).alloc (.cells #[.int .i16 a1, .int .u8 da, .int .i16 b1, .int .u8 db] 39)) HST.out).mono ?_
    rintro e w1 ⟨rfl, hB⟩
    have B1 := Lib.hid ((hbe.alloc hbe.size _).trans (hB.mono (by simp only [World.size_alloc]; omega)))
    clear hB c0 c1 c2 c3 c4 c5 c6 c7 c8 c9 hbe hz
    go_wp2
    go_ret2
    exact ⟨rfl, B1.out⟩
  | true =>
    rw [show mayF m a1 b1 da db = (mayB m da db, 0) from if_pos h1]
    rw [h1] at H1
    rw [Bool.and_eq_true, Bool.and_eq_true] at h1
    have h6a : da < 6 := by have := (okS_of h1.2.1).2; omega
    have h6b : db < 6 := by have := (okS_of h1.2.2).2; omega
    have HTa := Lib.hid (show ∀ wx, Calls Try.prog 25 #[.agg #[.int .i16 a1, .int .u8 da]] wx fun e w' => e = .returned (.agg #[.int .u8 da, .int .i64 a1, .int .i64 0]) ∧ Below wx.heap.size wx w' from fun wx => thread_any a1 (da : Int) wx HA.out)
    have HTb := Lib.hid (show ∀ wx, Calls Try.prog 25 #[.agg #[.int .i16 b1, .int .u8 db]] wx fun e w' => e = .returned (.agg #[.int .u8 db, .int .i64 b1, .int .i64 0]) ∧ Below wx.heap.size wx w' from fun wx => thread_any b1 (db : Int) wx HB.out)
    have fa : ∀ wx : World, (Instr.field 51 (.agg #[.int .u8 da, .int .i64 a1, .int .i64 0]) 0).run Try.prog wx = .ok (.int .u8 da) wx := fun _ => by kernel_rfl
    have fb : ∀ wx : World, (Instr.field 51 (.agg #[.int .u8 db, .int .i64 b1, .int .i64 0]) 0).run Try.prog wx = .ok (.int .u8 db) wx := fun _ => by kernel_rfl
    have HP := Lib.hid fun wx => partners_any m da wx h6a
    have HH := Lib.hid fun wx => has_any (m da) db wx hX (by omega)
    unfold mv at HP
    have hres : mayB m da db = hasB (m da) db := rfl
    rw [hres]
    clear h1 h6a h6b hX hres
    generalize hasB (m da) db = r at *
    generalize m da = z at *
    obtain ⟨c0, c1, c2, c3, c4, c5, c6, c7, c8, c9, hbe, hz⟩ := H0.out
    go_enter Try.func17, Try.ntmps17
    go_wp2_with fail
    refine (H1.out (w.heap.size + 1 + 1 + 1) 2 ((((w.alloc (.cells #[.int .u8 (m 0), .int .u8 (m 1), .int .u8 (m 2), .int .u8 (m 3), .int .u8 (m 4), .int .u8 (m 5)] 31)).alloc (.cells #[.int .i16 a1, .int .u8 da] 39)).alloc (.cells #[.int .i16 b1, .int .u8 db] 39)).alloc (.cells #[.int .i16 a1, .int .u8 da, .int .i16 b1, .int .u8 db] 39)) HST.out).mono ?_
    rintro e w1 ⟨rfl, hB⟩
    have HH1 := Lib.hid (held3_below (held3_below H0.out ((Below.refl _ _).alloc (Nat.le_refl _) _)) hB)
    clear hB c0 c1 c2 c3 c4 c5 c6 c7 c8 c9 hbe hz H0
    go_wp2_with fail
    go_region_held3 (fun w' => w'.cell? ⟨w.heap.size, 0, none⟩ = some (.int .u8 (m 0)) ∧ w'.cell? ⟨w.heap.size, 1, none⟩ = some (.int .u8 (m 1)) ∧ w'.cell? ⟨w.heap.size, 2, none⟩ = some (.int .u8 (m 2)) ∧ w'.cell? ⟨w.heap.size, 3, none⟩ = some (.int .u8 (m 3)) ∧ w'.cell? ⟨w.heap.size, 4, none⟩ = some (.int .u8 (m 4)) ∧ w'.cell? ⟨w.heap.size, 5, none⟩ = some (.int .u8 (m 5)) ∧ w'.cell? ⟨w.heap.size + 1, 0, none⟩ = some (.int .i16 a1) ∧ w'.cell? ⟨w.heap.size + 1, 1, none⟩ = some (.int .u8 da) ∧ w'.cell? ⟨w.heap.size + 2, 0, none⟩ = some (.int .i16 b1) ∧ w'.cell? ⟨w.heap.size + 2, 1, none⟩ = some (.int .u8 db) ∧ Below w.heap.size w w' ∧ w.heap.size + 2 < w'.heap.size)
      (first | assumption | exact held3_raw (held3_drew HH1.out) | (refine held3_next ?_ hB; assumption))
      (first | (go_at_call 25; first | (refine (HTa.out _).mono ?_; rintro e w' ⟨rfl, hB⟩) | (refine (HTb.out _).mono ?_; rintro e w' ⟨rfl, hB⟩)) | (go_at_call 29; refine (HP.out _).mono ?_; rintro e w' ⟨rfl, hB⟩) | (go_at_call 30; refine (HH.out _).mono ?_; rintro e w' ⟨rfl, rfl⟩))
    have HE := Lib.hid (held3_id (w := w) (m := m) (a1 := a1) (b1 := b1) (da := da) (db := db) (by assumption))
    go_wp2
    go_ret2
    exact ⟨rfl, HE.out.2.2.2.2.2.2.2.2.2.2.1⟩
end Go.Proofs.Ytibkocbfcdddfaa
