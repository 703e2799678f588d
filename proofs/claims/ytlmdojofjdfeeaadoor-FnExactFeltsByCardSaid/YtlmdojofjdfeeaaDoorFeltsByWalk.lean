/-
  Proved here: the law on FeltsBy answers true, for all arguments; condition: the errors that it asks lie where the program's text lays them.
-/
import Derived.Test.YtlmdojofjdfeeaaDoorClY
import Derived.Deep.RegionHeld3
namespace Go.Proofs.YtlmdojofjdfeeaaDoor
open Go.ChangeShapes Go.WideShapes Go.ChangeAt Go.RowKit

/-- The arguments' boxes. -/
def LB (w w' : World) (x y d f h t r c : Int) : Prop := w'.cell? ⟨w.heap.size, 0, none⟩ = some (.int .i16 x) ∧ w'.cell? ⟨w.heap.size, 1, none⟩ = some (.int .i16 y) ∧ w'.cell? ⟨w.heap.size, 2, none⟩ = some (.int .i8 d) ∧ w'.cell? ⟨w.heap.size, 3, none⟩ = some (.int .i8 f) ∧ w'.cell? ⟨w.heap.size, 4, none⟩ = some (.int .i8 h) ∧ w'.cell? ⟨w.heap.size + 1, 0, none⟩ = some (.int .i8 t) ∧ w'.cell? ⟨w.heap.size + 1, 1, none⟩ = some (.int .i8 r) ∧ w'.cell? ⟨w.heap.size + 1, 2, none⟩ = some (.int .i8 c) ∧ Below w.heap.size w w'
theorem LB.id {w w' : World} {x y d f h t r c : Int} (H : w'.cell? ⟨w.heap.size, 0, none⟩ = some (.int .i16 x) ∧ w'.cell? ⟨w.heap.size, 1, none⟩ = some (.int .i16 y) ∧ w'.cell? ⟨w.heap.size, 2, none⟩ = some (.int .i8 d) ∧ w'.cell? ⟨w.heap.size, 3, none⟩ = some (.int .i8 f) ∧ w'.cell? ⟨w.heap.size, 4, none⟩ = some (.int .i8 h) ∧ w'.cell? ⟨w.heap.size + 1, 0, none⟩ = some (.int .i8 t) ∧ w'.cell? ⟨w.heap.size + 1, 1, none⟩ = some (.int .i8 r) ∧ w'.cell? ⟨w.heap.size + 1, 2, none⟩ = some (.int .i8 c) ∧ Below w.heap.size w w') : LB w w' x y d f h t r c := H
theorem LB.bel {w w' : World} {x y d f h t r c : Int} (H : LB w w' x y d f h t r c) : Below w.heap.size w w' := H.2.2.2.2.2.2.2.2
theorem LB.next {w w1 w2 : World} {x y d f h t r c : Int} (H : LB w w1 x y d f h t r c) (hB : Below w1.heap.size w1 w2) : LB w w2 x y d f h t r c := by
  obtain ⟨a0, a1, a2, a3, a4, a5, a6, a7, z⟩ := H
  have k : ∀ {b o : Nat} {v : Value}, w1.cell? ⟨b, o, none⟩ = some v → w2.cell? ⟨b, o, none⟩ = some v := fun hc => kept hB (World.block_lt_of_cell? w1 _ hc) hc
  exact ⟨k a0, k a1, k a2, k a3, k a4, k a5, k a6, k a7, z.trans (hB.mono z.size)⟩
theorem LB.made (w : World) (x y d f h t r c : Int) : LB w ((w.alloc (.cells #[.int .i16 x, .int .i16 y, .int .i8 d, .int .i8 f, .int .i8 h] 25)).alloc (.cells #[.int .i8 t, .int .i8 r, .int .i8 c] 31)) x y d f h t r c := ⟨by simp [go_sem], by simp [go_sem], by simp [go_sem], by simp [go_sem], by simp [go_sem], by simp [go_sem], by simp [go_sem], by simp [go_sem], by go_grown⟩

set_option linter.unusedVariables false in
set_option maxRecDepth 100000 in
set_option maxHeartbeats 8000000 in
theorem feltsBy_walk {H : Type} {enc : TypeId × Value → H} (w : World) (base : Nat)
    (v0 : Value) (d0 : DataW H) (p0 : List MemPlace) (o0 : Value.okWide Tryd.prog w .any base 25 v0) (k0 : DataW.Trod enc Tryd.prog w 0 (fun _ => true) true 25 v0 d0 p0)
    (v1 : Value) (d1 : DataW H) (p1 : List MemPlace) (o1 : Value.okWide Tryd.prog w .any base 31 v1) (k1 : DataW.Trod enc Tryd.prog w 0 (fun _ => true) true 31 v1 d1 p1)
    (p : Nat → Addr) (hs : Sent7 w p) :
    Calls Tryd.prog 5 #[v0, v1] w fun e w' => e = .returned (.bool true) ∧ Below w.heap.size w w' := by
  obtain ⟨x, y, d, f, h, rfl, hx, hy, hd, hf, hh⟩ := openCloth o0
  clear o0 k0
  obtain ⟨t, r, c, rfl, ht, hr, hc⟩ := openProgram o1
  clear o1 k1
  have HS := Lib.hid hs
  have CS := Lib.hid fun wx => specFeltsBy_any x y d f h t r c wx hx hy hd hf hh ht hr hc
  have CI := Lib.hid fun wx (hs : Sent7 wx p) => implFeltsBy_any p x y d f h t r c wx hs hx hy hd hf hh ht hr hc
  have T0 := Lib.hid fun wx => toCloth_any x y d f h wx
  have T1 := Lib.hid fun wx => toProgram_any t r c wx
  have L0 := Lib.hid (LB.made w x y d f h t r c)
  clear hx hy hd hf hh ht hr hc hs
  generalize (felF x y d f h t r c).1 = q0 at *
  generalize (felF x y d f h t r c).2 = q1 at *
  have e0 : (q0 != q0) = false := by simp
  have e1 : (q1 != q1) = false := by simp
  go_enter Tryd.func5, Tryd.ntmps5
  go_wp2_with fail
  go_region_held3 (fun w' => w'.cell? ⟨w.heap.size, 0, none⟩ = some (.int .i16 x) ∧ w'.cell? ⟨w.heap.size, 1, none⟩ = some (.int .i16 y) ∧ w'.cell? ⟨w.heap.size, 2, none⟩ = some (.int .i8 d) ∧ w'.cell? ⟨w.heap.size, 3, none⟩ = some (.int .i8 f) ∧ w'.cell? ⟨w.heap.size, 4, none⟩ = some (.int .i8 h) ∧ w'.cell? ⟨w.heap.size + 1, 0, none⟩ = some (.int .i8 t) ∧ w'.cell? ⟨w.heap.size + 1, 1, none⟩ = some (.int .i8 r) ∧ w'.cell? ⟨w.heap.size + 1, 2, none⟩ = some (.int .i8 c) ∧ Below w.heap.size w w')
    (first | assumption | exact L0.out | exact L0.out.next ((Below.refl _ _).drew) | (refine LB.next ?_ hB; assumption))
    (first | (go_at_call_of 11 (Value.agg #[.int .i16 x, .int .i16 y, .int .i8 d, .int .i8 f, .int .i8 h]); refine (T0.out _).mono ?_; rintro e w' ⟨rfl, hB⟩) | (go_at_call_of 14 (Value.agg #[.int .i8 t, .int .i8 r, .int .i8 c]); refine (T1.out _).mono ?_; rintro e w' ⟨rfl, hB⟩) | (go_at_call 16; refine (CS.out _).mono ?_; rintro e w' ⟨rfl, hB⟩))
  have L1 := Lib.hid (LB.id (w := w) (x := x) (y := y) (d := d) (f := f) (h := h) (t := t) (r := r) (c := c) (by assumption))
  go_wp2_with fail
  go_region_held3 (fun w' => w'.cell? ⟨w.heap.size, 0, none⟩ = some (.int .i16 x) ∧ w'.cell? ⟨w.heap.size, 1, none⟩ = some (.int .i16 y) ∧ w'.cell? ⟨w.heap.size, 2, none⟩ = some (.int .i8 d) ∧ w'.cell? ⟨w.heap.size, 3, none⟩ = some (.int .i8 f) ∧ w'.cell? ⟨w.heap.size, 4, none⟩ = some (.int .i8 h) ∧ w'.cell? ⟨w.heap.size + 1, 0, none⟩ = some (.int .i8 t) ∧ w'.cell? ⟨w.heap.size + 1, 1, none⟩ = some (.int .i8 r) ∧ w'.cell? ⟨w.heap.size + 1, 2, none⟩ = some (.int .i8 c) ∧ Below w.heap.size w w')
    (first | assumption | exact L1.out | exact L1.out.next ((Below.refl _ _).drew) | (refine LB.next ?_ hB; assumption))
    (first | (go_at_call_of 11 (Value.agg #[.int .i16 x, .int .i16 y, .int .i8 d, .int .i8 f, .int .i8 h]); refine (T0.out _).mono ?_; rintro e w' ⟨rfl, hB⟩) | (go_at_call_of 14 (Value.agg #[.int .i8 t, .int .i8 r, .int .i8 c]); refine (T1.out _).mono ?_; rintro e w' ⟨rfl, hB⟩) | (go_at_call 17; refine (CI.out _ (HS.out.below (LB.bel (by assumption)))).mono ?_; rintro e w' ⟨rfl, hB⟩))
  have L2 := Lib.hid (LB.id (w := w) (x := x) (y := y) (d := d) (f := f) (h := h) (t := t) (r := r) (c := c) (by assumption))
  go_wp2
  go_ret
  exact ⟨rfl, L2.out.bel⟩
end Go.Proofs.YtlmdojofjdfeeaaDoor
