/-
  No statement is proved here: the week of holes in the program; conditions as stated.
-/
import Derived.Test.YtcdjjijagibhlaaDoorHoI
namespace Go.Proofs.YtcdjjijagibhlaaDoor
open Go.ChangeShapes Go.WideShapes Go.ChangeAt Go.RowKit

/-- The captured boxes. -/
def WB (w w' : World) (A Bn : Nat) (h : Nat → Int) (need : Int) : Prop := w'.cell? ⟨A, 0, none⟩ = some (.int .u8 (h 0)) ∧ w'.cell? ⟨A, 1, none⟩ = some (.int .u8 (h 1)) ∧ w'.cell? ⟨A, 2, none⟩ = some (.int .u8 (h 2)) ∧ w'.cell? ⟨A, 3, none⟩ = some (.int .u8 (h 3)) ∧ w'.cell? ⟨A, 4, none⟩ = some (.int .u8 (h 4)) ∧ w'.cell? ⟨A, 5, none⟩ = some (.int .u8 (h 5)) ∧ w'.cell? ⟨A, 6, none⟩ = some (.int .u8 (h 6)) ∧ w'.cell? ⟨A, 7, none⟩ = some (.int .u8 (h 7)) ∧ w'.cell? ⟨Bn, 0, none⟩ = some (.int .i64 need) ∧ Below w.heap.size w w'
theorem WB.id {w w' : World} {A Bn : Nat} {h : Nat → Int} {need : Int} (H : w'.cell? ⟨A, 0, none⟩ = some (.int .u8 (h 0)) ∧ w'.cell? ⟨A, 1, none⟩ = some (.int .u8 (h 1)) ∧ w'.cell? ⟨A, 2, none⟩ = some (.int .u8 (h 2)) ∧ w'.cell? ⟨A, 3, none⟩ = some (.int .u8 (h 3)) ∧ w'.cell? ⟨A, 4, none⟩ = some (.int .u8 (h 4)) ∧ w'.cell? ⟨A, 5, none⟩ = some (.int .u8 (h 5)) ∧ w'.cell? ⟨A, 6, none⟩ = some (.int .u8 (h 6)) ∧ w'.cell? ⟨A, 7, none⟩ = some (.int .u8 (h 7)) ∧ w'.cell? ⟨Bn, 0, none⟩ = some (.int .i64 need) ∧ Below w.heap.size w w') : WB w w' A Bn h need := H
theorem WB.bel {w w' : World} {A Bn : Nat} {h : Nat → Int} {need : Int} (H : WB w w' A Bn h need) : Below w.heap.size w w' := H.2.2.2.2.2.2.2.2.2
theorem WB.next {w w1 w2 : World} {A Bn : Nat} {h : Nat → Int} {need : Int} (H : WB w w1 A Bn h need) (hB : Below w1.heap.size w1 w2) : WB w w2 A Bn h need := by
  obtain ⟨a0, a1, a2, a3, a4, a5, a6, a7, a8, z⟩ := H
  have k : ∀ {b o : Nat} {v : Value}, w1.cell? ⟨b, o, none⟩ = some v → w2.cell? ⟨b, o, none⟩ = some v := fun hc => kept hB (World.block_lt_of_cell? w1 _ hc) hc
  exact ⟨k a0, k a1, k a2, k a3, k a4, k a5, k a6, k a7, k a8, z.trans (hB.mono z.size)⟩
theorem WB.of {w : World} {A Bn : Nat} {h : Nat → Int} {need : Int} (H : HAt w A h) (hn : w.cell? ⟨Bn, 0, none⟩ = some (.int .i64 need)) : WB w w A Bn h need :=
  ⟨H 0 (by omega), H 1 (by omega), H 2 (by omega), H 3 (by omega), H 4 (by omega), H 5 (by omega), H 6 (by omega), H 7 (by omega), hn, Below.refl _ _⟩

set_option maxRecDepth 100000 in
set_option maxHeartbeats 4000000 in
theorem week1_any (A Bn : Nat) (h : Nat → Int) (need : Int) (x y : Int) (w : World) (h8 : Bytes8 h) (hx : 0 ≤ x ∧ x ≤ 7) (hy : 0 ≤ y ∧ y ≤ 7) (H : HAt w A h) (hn : w.cell? ⟨Bn, 0, none⟩ = some (.int .i64 need)) :
    Calls Tryd.prog 43 #[.int .i64 x, .int .i64 y, .pointer (some ⟨A, 0, none⟩), .pointer (some ⟨Bn, 0, none⟩)] w fun e w' => e = .returned (.bool (newH h need x y)) ∧ Below w.heap.size w w' := by
  have HH := Lib.hid fun wx => has_any h x y wx h8 (by omega) (by omega)
  have HB := Lib.hid fun wx => beside_any h x y wx h8 hx hy
  have X0 := Lib.hid (WB.of H hn)
  obtain ⟨a0, a1, a2, a3, a4, a5, a6, a7, a8, _⟩ := X0.out
  unfold newH
  generalize cnt4 h x y = c at *
  generalize hasH h x y = r at *
  clear h8 hx hy H hn
  cases r with
  | true =>
    simp only [Bool.true_or]
    go_enter Tryd.func43, Tryd.ntmps43
    go_wp2_with fail
    first
      | (go_region_with (first | (go_at_call 38; refine (HH.out _).mono ?_; rintro e w' ⟨rfl, hB⟩)))
      | fail
    all_goals
      have E := Lib.hid (X0.out.next ((Below.refl w.heap.size w).drew.trans hB)).bel
      go_wp2
      go_ret
      exact ⟨rfl, E.out⟩
  | false =>
    simp only [Bool.false_or]
    obtain ⟨q, hq⟩ : ∃ q, decide (need ≤ c) = q := ⟨_, rfl⟩
    rw [hq]
    go_enter Tryd.func43, Tryd.ntmps43
    go_wp2_with fail
    go_region_held3 (fun w' => w'.cell? ⟨A, 0, none⟩ = some (.int .u8 (h 0)) ∧ w'.cell? ⟨A, 1, none⟩ = some (.int .u8 (h 1)) ∧ w'.cell? ⟨A, 2, none⟩ = some (.int .u8 (h 2)) ∧ w'.cell? ⟨A, 3, none⟩ = some (.int .u8 (h 3)) ∧ w'.cell? ⟨A, 4, none⟩ = some (.int .u8 (h 4)) ∧ w'.cell? ⟨A, 5, none⟩ = some (.int .u8 (h 5)) ∧ w'.cell? ⟨A, 6, none⟩ = some (.int .u8 (h 6)) ∧ w'.cell? ⟨A, 7, none⟩ = some (.int .u8 (h 7)) ∧ w'.cell? ⟨Bn, 0, none⟩ = some (.int .i64 need) ∧ Below w.heap.size w w')
      (first | assumption | exact X0.out.next ((Below.refl _ _).drew) | (refine WB.next ?_ hB; assumption))
      (first | (go_at_call 38; refine (HH.out _).mono ?_; rintro e w' ⟨rfl, hB⟩) | (go_at_call 44; refine (HB.out _).mono ?_; rintro e w' ⟨rfl, hB⟩))
    have E := Lib.hid (WB.id (w := w) (A := A) (Bn := Bn) (h := h) (need := need) (by assumption)).bel
    go_wp2
    go_ret
    refine ⟨?_, E.out⟩
    first | rfl | exact ret_bool hq
end Go.Proofs.YtcdjjijagibhlaaDoor
