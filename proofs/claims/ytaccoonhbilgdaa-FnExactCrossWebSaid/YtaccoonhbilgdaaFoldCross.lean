/-
  No statement is proved here: what FoldWeb and CrossWeb of the program answer; condition: at most 1048576 stripes.
-/
import Derived.Test.YtaccoonhbilgdaaHalves
namespace Go.Proofs.Ytaccoonhbilgdaa
open Go.ChangeShapes Go.WideShapes Go.ChangeAt Go.RowKit

set_option maxRecDepth 100000 in
set_option maxHeartbeats 2000000 in
theorem specCross_any (v : Value) (zs : List Int) (w : World) (h : Ints w v zs) (hn : zs.length ≤ 1048576) :
    Calls Try.prog 30 #[v] w fun e w' => ∃ r, e = .returned (.tuple #[r, .int .i64 (dblF false zs).2]) ∧ Own w' w.heap.size r (dblF false zs).1 ∧ Below w.heap.size w w' := by
  have hin := l02Ok_any v zs w h hn
  cases hok : okW zs with
  | false =>
    rw [hok] at hin
    have HI := Lib.hid hin
    rw [dblF_no hok]
    clear hin hok h
    go_enter Try.func30, Try.ntmps30
    go_wp2_with fail
    refine HI.out.mono ?_
    rintro e w' ⟨rfl, rfl⟩
    go_wp2_with fail
    go_returns
    exact ⟨_, rfl, World.ownsRow_made w #[] 0 (Nat.le_refl _) (by decide) rfl, (Below.refl _ _).alloc (Nat.le_refl _) _⟩
  | true =>
    rw [hok] at hin
    have HI := Lib.hid hin
    have HD := Lib.hid (l02Double_any v zs false w h hok)
    rw [dblF_yes hok]
    clear hin hok h
    go_enter Try.func30, Try.ntmps30
    go_wp2_with fail
    refine HI.out.mono ?_
    rintro e w' ⟨rfl, rfl⟩
    go_wp2_with fail
    refine HD.out.mono ?_
    rintro e w' ⟨r, rfl, own, hB⟩
    go_wp2_with fail
    go_returns
    exact ⟨_, rfl, own, hB⟩

set_option maxRecDepth 100000 in
set_option maxHeartbeats 1000000 in
theorem implFold_any (v : Value) (zs : List Int) (base : Nat) (w : World) (ho : Own w base v zs) (hn : zs.length ≤ 1048576) :
    Calls Try.prog 27 #[v] w fun e w' => ∃ r, e = .returned (.tuple #[r, .int .i64 (dblF true zs).2]) ∧ Own w' w.heap.size r (dblF true zs).1 ∧ Below w.heap.size w w' := by
  have hin := valid_any v zs w ho.ints hn
  cases hok : okW zs with
  | false =>
    rw [hok] at hin
    have HI := Lib.hid hin
    rw [dblF_no hok]
    clear hin hok ho
    go_enter Try.func27, Try.ntmps27
    go_wp2_with (first | (go_at_call 55; go_in) | fail)
    refine HI.out.mono ?_
    rintro e w' ⟨rfl, rfl⟩
    go_wp2_with fail
    go_returns
    exact ⟨_, rfl, World.ownsRow_nil _ _ _ _, Below.refl _ _⟩
  | true =>
    rw [hok] at hin
    have HI := Lib.hid hin
    have HF := Lib.hid (folded_any v zs base w ho hok)
    rw [dblF_yes hok]
    clear hin hok ho
    go_enter Try.func27, Try.ntmps27
    go_wp2_with (first | (go_at_call 55; go_in) | fail)
    refine HI.out.mono ?_
    rintro e w' ⟨rfl, rfl⟩
    go_wp2_with fail
    refine HF.out.mono ?_
    rintro e w1 ⟨r, rfl, own, hB⟩
    go_wp2_with fail
    go_returns
    exact ⟨_, rfl, own, hB⟩

set_option maxRecDepth 100000 in
set_option maxHeartbeats 1000000 in
theorem implCross_any (v : Value) (zs : List Int) (base : Nat) (w : World) (ho : Own w base v zs) (hn : zs.length ≤ 1048576) :
    Calls Try.prog 31 #[v] w fun e w' => ∃ r, e = .returned (.tuple #[r, .int .i64 (dblF false zs).2]) ∧ Own w' w.heap.size r (dblF false zs).1 ∧ Below w.heap.size w w' := by
  have hin := valid_any v zs w ho.ints hn
  cases hok : okW zs with
  | false =>
    rw [hok] at hin
    have HI := Lib.hid hin
    rw [dblF_no hok]
    clear hin hok ho
    go_enter Try.func31, Try.ntmps31
    go_wp2_with (first | (go_at_call 55; go_in) | fail)
    refine HI.out.mono ?_
    rintro e w' ⟨rfl, rfl⟩
    go_wp2_with fail
    go_returns
    exact ⟨_, rfl, World.ownsRow_nil _ _ _ _, Below.refl _ _⟩
  | true =>
    rw [hok] at hin
    have HI := Lib.hid hin
    have HF := Lib.hid (crossed_any v zs base w ho hok)
    rw [dblF_yes hok]
    clear hin hok ho
    go_enter Try.func31, Try.ntmps31
    go_wp2_with (first | (go_at_call 55; go_in) | fail)
    refine HI.out.mono ?_
    rintro e w' ⟨rfl, rfl⟩
    go_wp2_with fail
    refine HF.out.mono ?_
    rintro e w1 ⟨r, rfl, own, hB⟩
    go_wp2_with fail
    go_returns
    exact ⟨_, rfl, own, hB⟩

end Go.Proofs.Ytaccoonhbilgdaa
