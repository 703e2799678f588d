/-
  No statement is proved here: what PartLump answers, in the program and in the document's own text; condition: at most 1048576 stripes.
-/
import Derived.Test.YtocpigibognfpaaParted
namespace Go.Proofs.Ytocpigibognfpaa
open Go.ChangeShapes Go.WideShapes Go.ChangeAt Go.RowKit

/-- What PartLump answers. -/
def parF (zs : List Int) (i : Int) : List Int × Int :=
  if okW zs = true then (if inB i 0 ((zs.length : Int) - 1) = true then (if okW (partL zs i.toNat) = true then (partL zs i.toNat, 0) else ([], 3)) else ([], 2)) else ([], 1)
theorem parF_no {zs : List Int} {i : Int} (h : okW zs = false) : parF zs i = ([], 1) := by simp [parF, h]
theorem parF_out {zs : List Int} {i : Int} (h : okW zs = true) (h2 : inB i 0 ((zs.length : Int) - 1) = false) : parF zs i = ([], 2) := by simp [parF, h, h2]
theorem parF_thick {zs : List Int} {i : Nat} (h : okW zs = true) (h2 : inB (i : Int) 0 ((zs.length : Int) - 1) = true) (h3 : okW (partL zs i) = false) : parF zs (i : Int) = ([], 3) := by simp [parF, h, h2, h3]
theorem parF_yes {zs : List Int} {i : Nat} (h : okW zs = true) (h2 : inB (i : Int) 0 ((zs.length : Int) - 1) = true) (h3 : okW (partL zs i) = true) : parF zs (i : Int) = (partL zs i, 0) := by simp [parF, h, h2, h3]
theorem parF_len (zs : List Int) (i : Int) : (parF zs i).1.length ≤ 2097152 := by
  unfold parF
  split
  · rename_i h
    have := okW_len h
    split
    · split
      · show (partL zs i.toNat).length ≤ _
        rw [partL_length]
        omega
      · simp
    · simp
  · simp

set_option maxRecDepth 100000 in
set_option maxHeartbeats 1000000 in
theorem specPart_any (v : Value) (zs : List Int) (t : Int) (w : World) (h : Ints w v zs) (hn : zs.length ≤ 1048576) :
    Calls Try.prog 12 #[v, .int .i64 t] w fun e w' => ∃ r, e = .returned (.tuple #[r, .int .i64 (parF zs t).2]) ∧ Own w' w.heap.size r (parF zs t).1 ∧ Below w.heap.size w w' := by
  have hin := l02Ok_any v zs w h hn
  cases hok : okW zs with
  | false =>
    rw [hok] at hin
    have HI := Lib.hid hin
    rw [parF_no hok]
    clear hin hok h
    go_enter Try.func12, Try.ntmps12
    go_wp2_with fail
    refine HI.out.mono ?_
    rintro e w' ⟨rfl, rfl⟩
    go_wp2_with fail
    go_returns
    exact ⟨_, rfl, World.ownsRow_made w #[] 0 (Nat.le_refl _) (by decide) rfl, (Below.refl _ _).alloc (Nat.le_refl _) _⟩
  | true =>
    rw [hok] at hin
    have HI := Lib.hid hin
    have htm := in_any t 0 ((zs.length : Int) - 1) w
    have hl := okW_len hok
    cases h2 : inB t 0 ((zs.length : Int) - 1) with
    | false =>
      rw [h2] at htm
      rw [parF_out hok h2]
      obtain ⟨a1, c1, rfl⟩ := h.len
      have HT := Lib.hid htm
      clear hin hok h htm h2
      go_enter Try.func12, Try.ntmps12
      go_wp2_with fail
      refine HI.out.mono ?_
      rintro e w' ⟨rfl, rfl⟩
      go_wp2_with fail
      refine HT.out.mono ?_
      rintro e w' ⟨rfl, rfl⟩
      go_wp2_with fail
      go_returns
      exact ⟨_, rfl, World.ownsRow_made w #[] 0 (Nat.le_refl _) (by decide) rfl, (Below.refl _ _).alloc (Nat.le_refl _) _⟩
    | true =>
      rw [h2] at htm
      have hb := inB_of h2
      obtain ⟨i, rfl⟩ := Int.eq_ofNat_of_zero_le hb.1
      have hP := l02Part_any v zs i w h hok (by omega)
      cases h3 : okW (partL zs i) with
      | false =>
        rw [h3] at hP
        have HP := Lib.hid hP
        rw [parF_thick hok h2 h3]
        obtain ⟨a1, c1, rfl⟩ := h.len
        have HT := Lib.hid htm
        clear hin hok h htm h2 hP h3
        go_enter Try.func12, Try.ntmps12
        go_wp2_with fail
        refine HI.out.mono ?_
        rintro e w' ⟨rfl, rfl⟩
        go_wp2_with fail
        refine HT.out.mono ?_
        rintro e w' ⟨rfl, rfl⟩
        go_wp2_with fail
        refine HP.out.mono ?_
        rintro e w1 ⟨r, rfl, own, hB⟩
        have hB1 := Lib.hid hB
        clear own hB
        go_wp2_with fail
        go_returns
        exact ⟨_, rfl, World.ownsRow_made w1 #[] 0 hB1.out.size (by decide) rfl, hB1.out.alloc hB1.out.size _⟩
      | true =>
        rw [h3] at hP
        have HP := Lib.hid hP
        rw [parF_yes hok h2 h3]
        obtain ⟨a1, c1, rfl⟩ := h.len
        have HT := Lib.hid htm
        clear hin hok h htm h2 hP h3
        go_enter Try.func12, Try.ntmps12
        go_wp2_with fail
        refine HI.out.mono ?_
        rintro e w' ⟨rfl, rfl⟩
        go_wp2_with fail
        refine HT.out.mono ?_
        rintro e w' ⟨rfl, rfl⟩
        go_wp2_with fail
        refine HP.out.mono ?_
        rintro e w1 ⟨r, rfl, own, hB⟩
        have hB1 := Lib.hid hB
        have OW := Lib.hid own
        clear own hB
        go_wp2_with fail
        go_returns
        exact ⟨_, rfl, OW.out, hB1.out⟩

set_option maxRecDepth 100000 in
set_option maxHeartbeats 1000000 in
theorem implPart_any (v : Value) (zs : List Int) (t : Int) (w : World) (h : Ints w v zs) (hn : zs.length ≤ 1048576) :
    Calls Try.prog 11 #[v, .int .i64 t] w fun e w' => ∃ r, e = .returned (.tuple #[r, .int .i64 (parF zs t).2]) ∧ Own w' w.heap.size r (parF zs t).1 ∧ Below w.heap.size w w' := by
  have hin := valid_any v zs w h hn
  cases hok : okW zs with
  | false =>
    rw [hok] at hin
    have HI := Lib.hid hin
    rw [parF_no hok]
    clear hin hok h
    go_enter Try.func11, Try.ntmps11
    go_wp2_with fail
    refine HI.out.mono ?_
    rintro e w' ⟨rfl, rfl⟩
    go_wp2_with fail
    go_returns
    exact ⟨_, rfl, World.ownsRow_nil _ _ _ _, Below.refl _ _⟩
  | true =>
    rw [hok] at hin
    have HI := Lib.hid hin
    have hl := okW_len hok
    by_cases hta : t < 0
    · rw [parF_out hok (inB_mkno (.inl hta))]
      obtain ⟨a1, c1, rfl⟩ := h.len
      clear hin hok h
      go_enter Try.func11, Try.ntmps11
      go_wp2_with fail
      refine HI.out.mono ?_
      rintro e w' ⟨rfl, rfl⟩
      go_wp2_with fail
      go_returns
      exact ⟨_, rfl, World.ownsRow_nil _ _ _ _, Below.refl _ _⟩
    · by_cases htb : (zs.length : Int) ≤ t
      · rw [parF_out hok (inB_mkno (.inr (by omega)))]
        obtain ⟨a1, c1, rfl⟩ := h.len
        clear hin hok h
        go_enter Try.func11, Try.ntmps11
        go_wp2_with fail
        refine HI.out.mono ?_
        rintro e w' ⟨rfl, rfl⟩
        go_wp2_with fail
        go_returns
        exact ⟨_, rfl, World.ownsRow_nil _ _ _ _, Below.refl _ _⟩
      · obtain ⟨i, rfl⟩ := Int.eq_ofNat_of_zero_le (show 0 ≤ t by omega)
        have h2 : inB (i : Int) 0 ((zs.length : Int) - 1) = true := inB_mk ⟨by omega, by omega⟩
        have HP := Lib.hid (parted_any v zs i w h hok (by omega))
        have HV := Lib.hid fun r wx (hx : Ints wx r (partL zs i)) => valid_any r (partL zs i) wx hx (by rw [partL_length]; omega)
        obtain ⟨a1, c1, rfl⟩ := h.len
        have hlt : (i : Int) < (zs.length : Int) := by omega
        have hi0 : (0 : Int) ≤ (i : Int) := by omega
        cases h3 : okW (partL zs i) with
        | false =>
          rw [parF_thick hok h2 h3]
          rw [h3] at HV
          clear hin hok h h2 h3
          go_enter Try.func11, Try.ntmps11
          go_wp2_with fail
          refine HI.out.mono ?_
          rintro e w' ⟨rfl, rfl⟩
          go_wp2_with fail
          refine HP.out.mono ?_
          rintro e w1 ⟨r, rfl, own, hB⟩
          have hB1 := Lib.hid hB
          have OW := Lib.hid own
          clear own hB
          go_wp2_with fail
          refine (HV.out _ _ OW.out.ints).mono ?_
          rintro e w' ⟨rfl, rfl⟩
          go_wp2_with fail
          go_returns
          exact ⟨_, rfl, World.ownsRow_nil _ _ _ _, hB1.out⟩
        | true =>
          rw [parF_yes hok h2 h3]
          rw [h3] at HV
          clear hin hok h h2 h3
          go_enter Try.func11, Try.ntmps11
          go_wp2_with fail
          refine HI.out.mono ?_
          rintro e w' ⟨rfl, rfl⟩
          go_wp2_with fail
          refine HP.out.mono ?_
          rintro e w1 ⟨r, rfl, own, hB⟩
          have hB1 := Lib.hid hB
          have OW := Lib.hid own
          clear own hB
          go_wp2_with fail
          refine (HV.out _ _ OW.out.ints).mono ?_
          rintro e w' ⟨rfl, rfl⟩
          go_wp2_with fail
          go_returns
          exact ⟨_, rfl, OW.out, hB1.out⟩
end Go.Proofs.Ytocpigibognfpaa
