/-
  No statement is proved here: what FoldWeb and CrossWeb of the program answer; condition: at most 1048576 stripes.
-/
import Derived.Test.YtpnfombolnaldaaGreatDoorFold
import Derived.Test.YtpnfombolnaldaaGreatDoorHalves
namespace Go.Proofs.YtpnfombolnaldaaGreatDoor
open Go.ChangeShapes Go.WideShapes Go.ChangeAt Go.RowKit

/-- What FoldWeb (true) and CrossWeb (false) answer. -/
def dblF (f : Bool) (zs : List Int) : List Int × Int := if okW zs = true then (dblTo zs f (zs.length / 2), 0) else ([], 1)
theorem dblF_yes {f : Bool} {zs : List Int} (h : okW zs = true) : dblF f zs = (dblTo zs f (zs.length / 2), 0) := if_pos h
theorem dblF_no {f : Bool} {zs : List Int} (h : okW zs = false) : dblF f zs = ([], 1) := if_neg (by rw [h]; simp)
theorem dblF_len (f : Bool) (zs : List Int) : (dblF f zs).1.length ≤ 2097152 := by
  cases h : okW zs with
  | false => rw [dblF_no h]; simp
  | true =>
    rw [dblF_yes h]
    have := okW_len h
    show (dblTo zs f (zs.length / 2)).length ≤ _
    rw [dblTo_length]
    omega
theorem foldF_len (zs : List Int) : (dblF true zs).1.length ≤ 2097152 := dblF_len true zs
theorem crossF_len (zs : List Int) : (dblF false zs).1.length ≤ 2097152 := dblF_len false zs

set_option maxRecDepth 100000 in
set_option maxHeartbeats 2000000 in
theorem specFold_any (v : Value) (zs : List Int) (w : World) (h : Ints w v zs) (hn : zs.length ≤ 1048576) :
    Calls Tryz.prog 21 #[v] w fun e w' => ∃ r, e = .returned (.tuple #[r, .int .i64 (dblF true zs).2]) ∧ Own w' w.heap.size r (dblF true zs).1 ∧ Below w.heap.size w w' := by
  have hin := l02Ok_any v zs w h hn
  cases hok : okW zs with
  | false =>
    rw [hok] at hin
    have HI := Lib.hid hin
    rw [dblF_no hok]
    clear hin hok h
    go_enter Tryz.func21, Tryz.ntmps21
    go_wp2_with fail
    refine HI.out.mono ?_
    rintro e w' ⟨rfl, rfl⟩
    go_wp2_with fail
    go_returns
    exact ⟨_, rfl, World.ownsRow_made w #[] 0 (Nat.le_refl _) (by decide) rfl, (Below.refl _ _).alloc (Nat.le_refl _) _⟩
  | true =>
    rw [hok] at hin
    have HI := Lib.hid hin
    have HD := Lib.hid (l02Double_any v zs true w h hok)
    rw [dblF_yes hok]
    clear hin hok h
    go_enter Tryz.func21, Tryz.ntmps21
    go_wp2_with fail
    refine HI.out.mono ?_
    rintro e w' ⟨rfl, rfl⟩
    go_wp2_with fail
    refine HD.out.mono ?_
    rintro e w' ⟨r, rfl, own, hB⟩
    go_wp2_with fail
    go_returns
    exact ⟨_, rfl, own, hB⟩


set_option maxRecDepth 100000 in
set_option maxHeartbeats 2000000 in
theorem specCross_any (v : Value) (zs : List Int) (w : World) (h : Ints w v zs) (hn : zs.length ≤ 1048576) :
    Calls Tryz.prog 23 #[v] w fun e w' => ∃ r, e = .returned (.tuple #[r, .int .i64 (dblF false zs).2]) ∧ Own w' w.heap.size r (dblF false zs).1 ∧ Below w.heap.size w w' := by
  have hin := l02Ok_any v zs w h hn
  cases hok : okW zs with
  | false =>
    rw [hok] at hin
    have HI := Lib.hid hin
    rw [dblF_no hok]
    clear hin hok h
    go_enter Tryz.func23, Tryz.ntmps23
    go_wp2_with fail
    refine HI.out.mono ?_
    rintro e w' ⟨rfl, rfl⟩
    go_wp2_with fail
    go_returns
    exact ⟨_, rfl, World.ownsRow_made w #[] 0 (Nat.le_refl _) (by decide) rfl, (Below.refl _ _).alloc (Nat.le_refl _) _⟩
  | true =>
    rw [hok] at hin
    have HI := Lib.hid hin
    have HD := Lib.hid (l02Double_any v zs false w h hok)
    rw [dblF_yes hok]
    clear hin hok h
    go_enter Tryz.func23, Tryz.ntmps23
    go_wp2_with fail
    refine HI.out.mono ?_
    rintro e w' ⟨rfl, rfl⟩
    go_wp2_with fail
    refine HD.out.mono ?_
    rintro e w' ⟨r, rfl, own, hB⟩
    go_wp2_with fail
    go_returns
    exact ⟨_, rfl, own, hB⟩

set_option maxRecDepth 100000 in
set_option maxHeartbeats 1000000 in
theorem implFold_any (v : Value) (zs : List Int) (base : Nat) (w : World) (ho : Own w base v zs) (hn : zs.length ≤ 1048576) :
    Calls Tryz.prog 20 #[v] w fun e w' => ∃ r, e = .returned (.tuple #[r, .int .i64 (dblF true zs).2]) ∧ Own w' w.heap.size r (dblF true zs).1 ∧ Below w.heap.size w w' := by
  have hin := valid_any v zs w ho.ints hn
  cases hok : okW zs with
  | false =>
    rw [hok] at hin
    have HI := Lib.hid hin
    rw [dblF_no hok]
    clear hin hok ho
    go_enter Tryz.func20, Tryz.ntmps20
    go_wp2_with (first | (go_at_call 46; go_in) | fail)
    refine HI.out.mono ?_
    rintro e w' ⟨rfl, rfl⟩
    go_wp2_with fail
    go_returns
    exact ⟨_, rfl, World.ownsRow_nil _ _ _ _, Below.refl _ _⟩
  | true =>
    rw [hok] at hin
    have HI := Lib.hid hin
    have HF := Lib.hid (folded_any v zs base w ho hok)
    rw [dblF_yes hok]
    clear hin hok ho
    go_enter Tryz.func20, Tryz.ntmps20
    go_wp2_with (first | (go_at_call 46; go_in) | fail)
    refine HI.out.mono ?_
    rintro e w' ⟨rfl, rfl⟩
    go_wp2_with fail
    refine HF.out.mono ?_
    rintro e w1 ⟨r, rfl, own, hB⟩
    go_wp2_with fail
    go_returns
    exact ⟨_, rfl, own, hB⟩

set_option maxRecDepth 100000 in
set_option maxHeartbeats 1000000 in
theorem implCross_any (v : Value) (zs : List Int) (base : Nat) (w : World) (ho : Own w base v zs) (hn : zs.length ≤ 1048576) :
    Calls Tryz.prog 22 #[v] w fun e w' => ∃ r, e = .returned (.tuple #[r, .int .i64 (dblF false zs).2]) ∧ Own w' w.heap.size r (dblF false zs).1 ∧ Below w.heap.size w w' := by
  have hin := valid_any v zs w ho.ints hn
  cases hok : okW zs with
  | false =>
    rw [hok] at hin
    have HI := Lib.hid hin
    rw [dblF_no hok]
    clear hin hok ho
    go_enter Tryz.func22, Tryz.ntmps22
    go_wp2_with (first | (go_at_call 46; go_in) | fail)
    refine HI.out.mono ?_
    rintro e w' ⟨rfl, rfl⟩
    go_wp2_with fail
    go_returns
    exact ⟨_, rfl, World.ownsRow_nil _ _ _ _, Below.refl _ _⟩
  | true =>
    rw [hok] at hin
    have HI := Lib.hid hin
    have HF := Lib.hid (crossed_any v zs base w ho hok)
    rw [dblF_yes hok]
    clear hin hok ho
    go_enter Tryz.func22, Tryz.ntmps22
    go_wp2_with (first | (go_at_call 46; go_in) | fail)
    refine HI.out.mono ?_
    rintro e w' ⟨rfl, rfl⟩
    go_wp2_with fail
    refine HF.out.mono ?_
    rintro e w1 ⟨r, rfl, own, hB⟩
    go_wp2_with fail
    go_returns
    exact ⟨_, rfl, own, hB⟩

end Go.Proofs.YtpnfombolnaldaaGreatDoor
