/-
  Proved here: the law on CompareFractions answers true, for all arguments; no condition.
-/
import Derived.Test.YthokpdhknohpoaaCompare
namespace Go.Proofs.Ythokpdhknohpoaa
open Go.RowKit

theorem held2_next {w W w' : World} {a b c d : Int} (h : W.cell? ⟨w.heap.size, 0, none⟩ = some (.int .i64 a) ∧ W.cell? ⟨w.heap.size, 1, none⟩ = some (.int .i64 b) ∧ W.cell? ⟨w.heap.size + 1, 0, none⟩ = some (.int .i64 c) ∧ W.cell? ⟨w.heap.size + 1, 1, none⟩ = some (.int .i64 d) ∧ Below w.heap.size w W ∧ w.heap.size + 1 < W.heap.size) (hB : Below W.heap.size W w') : w'.cell? ⟨w.heap.size, 0, none⟩ = some (.int .i64 a) ∧ w'.cell? ⟨w.heap.size, 1, none⟩ = some (.int .i64 b) ∧ w'.cell? ⟨w.heap.size + 1, 0, none⟩ = some (.int .i64 c) ∧ w'.cell? ⟨w.heap.size + 1, 1, none⟩ = some (.int .i64 d) ∧ Below w.heap.size w w' ∧ w.heap.size + 1 < w'.heap.size :=
  ⟨kept hB (Nat.lt_trans (Nat.lt_succ_self _) h.2.2.2.2.2) h.1, kept hB (Nat.lt_trans (Nat.lt_succ_self _) h.2.2.2.2.2) h.2.1, kept hB h.2.2.2.2.2 h.2.2.1, kept hB h.2.2.2.2.2 h.2.2.2.1,
    h.2.2.2.2.1.trans (hB.mono h.2.2.2.2.1.size), Nat.lt_of_lt_of_le h.2.2.2.2.2 hB.size⟩

/-- The facts on the two boxes, under one name. -/
def Held2 (w W : World) (a b c d : Int) : Prop := W.cell? ⟨w.heap.size, 0, none⟩ = some (.int .i64 a) ∧ W.cell? ⟨w.heap.size, 1, none⟩ = some (.int .i64 b) ∧ W.cell? ⟨w.heap.size + 1, 0, none⟩ = some (.int .i64 c) ∧ W.cell? ⟨w.heap.size + 1, 1, none⟩ = some (.int .i64 d) ∧ Below w.heap.size w W ∧ w.heap.size + 1 < W.heap.size
theorem held2_id {w W : World} {a b c d : Int} (h : W.cell? ⟨w.heap.size, 0, none⟩ = some (.int .i64 a) ∧ W.cell? ⟨w.heap.size, 1, none⟩ = some (.int .i64 b) ∧ W.cell? ⟨w.heap.size + 1, 0, none⟩ = some (.int .i64 c) ∧ W.cell? ⟨w.heap.size + 1, 1, none⟩ = some (.int .i64 d) ∧ Below w.heap.size w W ∧ w.heap.size + 1 < W.heap.size) : Held2 w W a b c d := h
theorem held2_drew {w W : World} {a b c d : Int} (h : Held2 w W a b c d) : W.drew.cell? ⟨w.heap.size, 0, none⟩ = some (.int .i64 a) ∧ W.drew.cell? ⟨w.heap.size, 1, none⟩ = some (.int .i64 b) ∧ W.drew.cell? ⟨w.heap.size + 1, 0, none⟩ = some (.int .i64 c) ∧ W.drew.cell? ⟨w.heap.size + 1, 1, none⟩ = some (.int .i64 d) ∧ Below w.heap.size w W.drew ∧ w.heap.size + 1 < W.drew.heap.size := ⟨h.1, h.2.1, h.2.2.1, h.2.2.2.1, h.2.2.2.2.1.drew, h.2.2.2.2.2⟩
theorem openFr {w : World} {r : Reach} {base : Nat} {v : Value} (h : Value.okWide Try.prog w r base 28 v) : ∃ a b : Int, v = .agg #[.int .i64 a, .int .i64 b] := by
  obtain ⟨vs, rfl, hc⟩ := open_cells h (by kernel_rfl) (ts := [2, 2]) (ks := [.i64, .i64]) (by kernel_rfl) (by kernel_rfl) (by kernel_rfl)
  obtain ⟨a, _, rfl, _, b, _, rfl, _, rfl⟩ := hc
  exact ⟨a, b, rfl⟩

set_option linter.unusedVariables false in
set_option maxHeartbeats 1000000 in
theorem compareFractions_walk {H : Type} {enc : TypeId × Value → H} (w : World) (base : Nat)
    (v0 : Value) (d0 : DataW H) (p0 : List MemPlace) (o0 : Value.okWide Try.prog w .any base 28 v0) (k0 : DataW.Trod enc Try.prog w 0 (fun _ => true) true 28 v0 d0 p0)
    (v1 : Value) (d1 : DataW H) (p1 : List MemPlace) (o1 : Value.okWide Try.prog w .any base 28 v1) (k1 : DataW.Trod enc Try.prog w 0 (fun _ => true) true 28 v1 d1 p1) :
    Calls Try.prog 4 #[v0, v1] w fun e w' => e = .returned (.bool true) ∧ Below w.heap.size w w' := by
  obtain ⟨a, b, rfl⟩ := openFr o0
  obtain ⟨c, d, rfl⟩ := openFr o1
  clear o0 k0 o1 k1
  obtain ⟨x, k, hF⟩ : ∃ x k, cmpF a b c d = (x, k) := ⟨_, _, rfl⟩
  have H1 := Lib.hid fun wx => specCompare_any a b c d x k wx hF
  have H2 := Lib.hid fun wx => implCompare_any a b c d x k wx hF
  clear hF
  have hx : (x != x) = false := by simp
  have hk : (k != k) = false := by simp
  go_enter Try.func4, Try.ntmps4
  go_wp2
  go_region_held3 (fun w' => w'.cell? ⟨w.heap.size, 0, none⟩ = some (.int .i64 a) ∧ w'.cell? ⟨w.heap.size, 1, none⟩ = some (.int .i64 b) ∧ w'.cell? ⟨w.heap.size + 1, 0, none⟩ = some (.int .i64 c) ∧ w'.cell? ⟨w.heap.size + 1, 1, none⟩ = some (.int .i64 d) ∧ Below w.heap.size w w' ∧ w.heap.size + 1 < w'.heap.size)
    (first | exact ⟨by simp [go_sem], by simp [go_sem], by simp [go_sem], by simp [go_sem], by go_grown, by simp⟩ | assumption | (refine held2_next ?_ hB; assumption))
    (first | (go_at_call 18; refine (toFr_any _ _ _).mono ?_; rintro e w' ⟨rfl, hB⟩) | (go_at_call 17; refine (H1.out _).mono ?_; rintro e w' ⟨rfl, hB⟩))
  have hh := held2_id (w := w) (a := a) (b := b) (c := c) (d := d) (by assumption)
  go_wp2
  go_region_held3 (fun w' => w'.cell? ⟨w.heap.size, 0, none⟩ = some (.int .i64 a) ∧ w'.cell? ⟨w.heap.size, 1, none⟩ = some (.int .i64 b) ∧ w'.cell? ⟨w.heap.size + 1, 0, none⟩ = some (.int .i64 c) ∧ w'.cell? ⟨w.heap.size + 1, 1, none⟩ = some (.int .i64 d) ∧ Below w.heap.size w w' ∧ w.heap.size + 1 < w'.heap.size)
    (first | exact held2_drew hh | assumption | (refine held2_next ?_ hB; assumption))
    (first | (go_at_call 18; refine (toFr_any _ _ _).mono ?_; rintro e w' ⟨rfl, hB⟩) | (go_at_call 19; refine (H2.out _).mono ?_; rintro e w' ⟨rfl, hB⟩))
  go_wp2
  go_ret
  exact ⟨rfl, (held2_id (w := w) (a := a) (b := b) (c := c) (d := d) (by assumption)).2.2.2.2.1⟩
end Go.Proofs.Ythokpdhknohpoaa
