/-
  Proved here: the law on WashOnce answers true, for all arguments; condition: the errors that it asks lie where the program's text lays them.
-/
import Derived.Test.YtlmdojofjdfeeaaDoorClY
import Derived.Deep.RegionHeld3
import Derived.Deep.RegionWith
import Derived.Deep.DeepCutAuto
namespace Go.Proofs.YtlmdojofjdfeeaaDoor
open Go.ChangeShapes Go.WideShapes Go.ChangeAt Go.RowKit

/-- The arguments' boxes. -/
def LB (w w' : World) (x y d f h t r c : Int) : Prop := w'.cell? ⟨w.heap.size, 0, none⟩ = some (.int .i16 x) ∧ w'.cell? ⟨w.heap.size, 1, none⟩ = some (.int .i16 y) ∧ w'.cell? ⟨w.heap.size, 2, none⟩ = some (.int .i8 d) ∧ w'.cell? ⟨w.heap.size, 3, none⟩ = some (.int .i8 f) ∧ w'.cell? ⟨w.heap.size, 4, none⟩ = some (.int .i8 h) ∧ w'.cell? ⟨w.heap.size + 1, 0, none⟩ = some (.int .i8 t) ∧ w'.cell? ⟨w.heap.size + 1, 1, none⟩ = some (.int .i8 r) ∧ w'.cell? ⟨w.heap.size + 1, 2, none⟩ = some (.int .i8 c) ∧ Below w.heap.size w w'
theorem LB.id {w w' : World} {x y d f h t r c : Int} (H : w'.cell? ⟨w.heap.size, 0, none⟩ = some (.int .i16 x) ∧ w'.cell? ⟨w.heap.size, 1, none⟩ = some (.int .i16 y) ∧ w'.cell? ⟨w.heap.size, 2, none⟩ = some (.int .i8 d) ∧ w'.cell? ⟨w.heap.size, 3, none⟩ = some (.int .i8 f) ∧ w'.cell? ⟨w.heap.size, 4, none⟩ = some (.int .i8 h) ∧ w'.cell? ⟨w.heap.size + 1, 0, none⟩ = some (.int .i8 t) ∧ w'.cell? ⟨w.heap.size + 1, 1, none⟩ = some (.int .i8 r) ∧ w'.cell? ⟨w.heap.size + 1, 2, none⟩ = some (.int .i8 c) ∧ Below w.heap.size w w') : LB w w' x y d f h t r c := H
theorem LB.bel {w w' : World} {x y d f h t r c : Int} (H : LB w w' x y d f h t r c) : Below w.heap.size w w' := H.2.2.2.2.2.2.2.2
theorem LB.next {w w1 w2 : World} {x y d f h t r c : Int} (H : LB w w1 x y d f h t r c) (hB : Below w1.heap.size w1 w2) : LB w w2 x y d f h t r c := by
  obtain ⟨a0, a1, a2, a3, a4, a5, a6, a7, z⟩ := H
  have k : ∀ {b o : Nat} {v : Value}, w1.cell? ⟨b, o, none⟩ = some v → w2.cell? ⟨b, o, none⟩ = some v := fun hc => kept hB (World.block_lt_of_cell? w1 _ hc) hc
  exact ⟨k a0, k a1, k a2, k a3, k a4, k a5, k a6, k a7, z.trans (hB.mono z.size)⟩
theorem LB.made (w : World) (x y d f h t r c : Int) : LB w ((w.alloc (.cells #[.int .i16 x, .int .i16 y, .int .i8 d, .int .i8 f, .int .i8 h] 25)).alloc (.cells #[.int .i8 t, .int .i8 r, .int .i8 c] 31)) x y d f h t r c := ⟨by simp [go_sem], by simp [go_sem], by simp [go_sem], by simp [go_sem], by simp [go_sem], by simp [go_sem], by simp [go_sem], by simp [go_sem], by go_grown⟩

/-- An empty cloth's box. -/
def ZB (W : World) (B : Nat) : Prop := W.cell? ⟨B, 0, none⟩ = some (.int .i16 0) ∧ W.cell? ⟨B, 1, none⟩ = some (.int .i16 0) ∧ W.cell? ⟨B, 2, none⟩ = some (.int .i8 0) ∧ W.cell? ⟨B, 3, none⟩ = some (.int .i8 0) ∧ W.cell? ⟨B, 4, none⟩ = some (.int .i8 0) ∧ ∀ o : Nat, W.frozen? ⟨B, o, none⟩ = false
theorem ZB.next {W W' : World} {B : Nat} (H : ZB W B) (hB : Below W.heap.size W W') : ZB W' B := by
  have hl := World.block_lt_of_cell? W _ H.1
  exact ⟨kept hB hl H.1, kept hB hl H.2.1, kept hB hl H.2.2.1, kept hB hl H.2.2.2.1, kept hB hl H.2.2.2.2.1, fun o => (hB.frozen (p := ⟨B, o, none⟩) hl).trans (H.2.2.2.2.2 o)⟩
theorem zb_with {W W' : World} {B : Nat} {G : Prop} (hB : Below W.heap.size W W') (h : ZB W B) (k : ZB W' B → G) : G := k (h.next hB)
theorem CBox.stored {W : World} {B : Nat} (H : ZB W B) (x y d f h : Int) : CBox (((((W.setCell ⟨B, 0, none⟩ (.int .i16 x)).setCell ⟨B, 1, none⟩ (.int .i16 y)).setCell ⟨B, 2, none⟩ (.int .i8 d)).setCell ⟨B, 3, none⟩ (.int .i8 f)).setCell ⟨B, 4, none⟩ (.int .i8 h)) B x y d f h := by
  obtain ⟨h0, h1, h2, h3, h4, _⟩ := H
  obtain ⟨e0, e1, e2, e3, e4⟩ := res5 (.int .i16 x) (.int .i16 y) (.int .i8 d) (.int .i8 f) (.int .i8 h) h0 h1 h2 h3 h4
  exact ⟨(World.cell?_setCell_other _ _ _ _ (by simp)).trans ((World.cell?_setCell_other _ _ _ _ (by simp)).trans ((World.cell?_setCell_other _ _ _ _ (by simp)).trans ((World.cell?_setCell_other _ _ _ _ (by simp)).trans e0))),
    (World.cell?_setCell_other _ _ _ _ (by simp)).trans ((World.cell?_setCell_other _ _ _ _ (by simp)).trans ((World.cell?_setCell_other _ _ _ _ (by simp)).trans e1)),
    (World.cell?_setCell_other _ _ _ _ (by simp)).trans ((World.cell?_setCell_other _ _ _ _ (by simp)).trans e2), (World.cell?_setCell_other _ _ _ _ (by simp)).trans e3, e4⟩
theorem CBox.far {W : World} {b B : Nat} {x y d f h : Int} (H : CBox W b x y d f h) (hne : b < B) (u0 u1 u2 u3 u4 : Int) : CBox (((((W.setCell ⟨B, 0, none⟩ (.int .i16 u0)).setCell ⟨B, 1, none⟩ (.int .i16 u1)).setCell ⟨B, 2, none⟩ (.int .i8 u2)).setCell ⟨B, 3, none⟩ (.int .i8 u3)).setCell ⟨B, 4, none⟩ (.int .i8 u4)) b x y d f h := by
  obtain ⟨h0, h1, h2, h3, h4⟩ := H
  exact ⟨((World.cell?_setCell_other _ _ _ _ (by intro e; have e2 := congrArg Addr.block e; simp only at e2; omega)).trans ((World.cell?_setCell_other _ _ _ _ (by intro e; have e2 := congrArg Addr.block e; simp only at e2; omega)).trans ((World.cell?_setCell_other _ _ _ _ (by intro e; have e2 := congrArg Addr.block e; simp only at e2; omega)).trans ((World.cell?_setCell_other _ _ _ _ (by intro e; have e2 := congrArg Addr.block e; simp only at e2; omega)).trans ((World.cell?_setCell_other _ _ _ _ (by intro e; have e2 := congrArg Addr.block e; simp only at e2; omega)).trans h0))))), ((World.cell?_setCell_other _ _ _ _ (by intro e; have e2 := congrArg Addr.block e; simp only at e2; omega)).trans ((World.cell?_setCell_other _ _ _ _ (by intro e; have e2 := congrArg Addr.block e; simp only at e2; omega)).trans ((World.cell?_setCell_other _ _ _ _ (by intro e; have e2 := congrArg Addr.block e; simp only at e2; omega)).trans ((World.cell?_setCell_other _ _ _ _ (by intro e; have e2 := congrArg Addr.block e; simp only at e2; omega)).trans ((World.cell?_setCell_other _ _ _ _ (by intro e; have e2 := congrArg Addr.block e; simp only at e2; omega)).trans h1))))), ((World.cell?_setCell_other _ _ _ _ (by intro e; have e2 := congrArg Addr.block e; simp only at e2; omega)).trans ((World.cell?_setCell_other _ _ _ _ (by intro e; have e2 := congrArg Addr.block e; simp only at e2; omega)).trans ((World.cell?_setCell_other _ _ _ _ (by intro e; have e2 := congrArg Addr.block e; simp only at e2; omega)).trans ((World.cell?_setCell_other _ _ _ _ (by intro e; have e2 := congrArg Addr.block e; simp only at e2; omega)).trans ((World.cell?_setCell_other _ _ _ _ (by intro e; have e2 := congrArg Addr.block e; simp only at e2; omega)).trans h2))))), ((World.cell?_setCell_other _ _ _ _ (by intro e; have e2 := congrArg Addr.block e; simp only at e2; omega)).trans ((World.cell?_setCell_other _ _ _ _ (by intro e; have e2 := congrArg Addr.block e; simp only at e2; omega)).trans ((World.cell?_setCell_other _ _ _ _ (by intro e; have e2 := congrArg Addr.block e; simp only at e2; omega)).trans ((World.cell?_setCell_other _ _ _ _ (by intro e; have e2 := congrArg Addr.block e; simp only at e2; omega)).trans ((World.cell?_setCell_other _ _ _ _ (by intro e; have e2 := congrArg Addr.block e; simp only at e2; omega)).trans h3))))), ((World.cell?_setCell_other _ _ _ _ (by intro e; have e2 := congrArg Addr.block e; simp only at e2; omega)).trans ((World.cell?_setCell_other _ _ _ _ (by intro e; have e2 := congrArg Addr.block e; simp only at e2; omega)).trans ((World.cell?_setCell_other _ _ _ _ (by intro e; have e2 := congrArg Addr.block e; simp only at e2; omega)).trans ((World.cell?_setCell_other _ _ _ _ (by intro e; have e2 := congrArg Addr.block e; simp only at e2; omega)).trans ((World.cell?_setCell_other _ _ _ _ (by intro e; have e2 := congrArg Addr.block e; simp only at e2; omega)).trans h4)))))⟩
theorem LB.far {w W : World} {B : Nat} {x y d f h t r c : Int} (H : LB w W x y d f h t r c) (hne : w.heap.size + 1 < B) (u0 u1 u2 u3 u4 : Int) : LB w (((((W.setCell ⟨B, 0, none⟩ (.int .i16 u0)).setCell ⟨B, 1, none⟩ (.int .i16 u1)).setCell ⟨B, 2, none⟩ (.int .i8 u2)).setCell ⟨B, 3, none⟩ (.int .i8 u3)).setCell ⟨B, 4, none⟩ (.int .i8 u4)) x y d f h t r c := by
  obtain ⟨h0, h1, h2, h3, h4, h5, h6, h7, z⟩ := H
  exact ⟨((World.cell?_setCell_other _ _ _ _ (by intro e; have e2 := congrArg Addr.block e; simp only at e2; omega)).trans ((World.cell?_setCell_other _ _ _ _ (by intro e; have e2 := congrArg Addr.block e; simp only at e2; omega)).trans ((World.cell?_setCell_other _ _ _ _ (by intro e; have e2 := congrArg Addr.block e; simp only at e2; omega)).trans ((World.cell?_setCell_other _ _ _ _ (by intro e; have e2 := congrArg Addr.block e; simp only at e2; omega)).trans ((World.cell?_setCell_other _ _ _ _ (by intro e; have e2 := congrArg Addr.block e; simp only at e2; omega)).trans h0))))), ((World.cell?_setCell_other _ _ _ _ (by intro e; have e2 := congrArg Addr.block e; simp only at e2; omega)).trans ((World.cell?_setCell_other _ _ _ _ (by intro e; have e2 := congrArg Addr.block e; simp only at e2; omega)).trans ((World.cell?_setCell_other _ _ _ _ (by intro e; have e2 := congrArg Addr.block e; simp only at e2; omega)).trans ((World.cell?_setCell_other _ _ _ _ (by intro e; have e2 := congrArg Addr.block e; simp only at e2; omega)).trans ((World.cell?_setCell_other _ _ _ _ (by intro e; have e2 := congrArg Addr.block e; simp only at e2; omega)).trans h1))))), ((World.cell?_setCell_other _ _ _ _ (by intro e; have e2 := congrArg Addr.block e; simp only at e2; omega)).trans ((World.cell?_setCell_other _ _ _ _ (by intro e; have e2 := congrArg Addr.block e; simp only at e2; omega)).trans ((World.cell?_setCell_other _ _ _ _ (by intro e; have e2 := congrArg Addr.block e; simp only at e2; omega)).trans ((World.cell?_setCell_other _ _ _ _ (by intro e; have e2 := congrArg Addr.block e; simp only at e2; omega)).trans ((World.cell?_setCell_other _ _ _ _ (by intro e; have e2 := congrArg Addr.block e; simp only at e2; omega)).trans h2))))), ((World.cell?_setCell_other _ _ _ _ (by intro e; have e2 := congrArg Addr.block e; simp only at e2; omega)).trans ((World.cell?_setCell_other _ _ _ _ (by intro e; have e2 := congrArg Addr.block e; simp only at e2; omega)).trans ((World.cell?_setCell_other _ _ _ _ (by intro e; have e2 := congrArg Addr.block e; simp only at e2; omega)).trans ((World.cell?_setCell_other _ _ _ _ (by intro e; have e2 := congrArg Addr.block e; simp only at e2; omega)).trans ((World.cell?_setCell_other _ _ _ _ (by intro e; have e2 := congrArg Addr.block e; simp only at e2; omega)).trans h3))))), ((World.cell?_setCell_other _ _ _ _ (by intro e; have e2 := congrArg Addr.block e; simp only at e2; omega)).trans ((World.cell?_setCell_other _ _ _ _ (by intro e; have e2 := congrArg Addr.block e; simp only at e2; omega)).trans ((World.cell?_setCell_other _ _ _ _ (by intro e; have e2 := congrArg Addr.block e; simp only at e2; omega)).trans ((World.cell?_setCell_other _ _ _ _ (by intro e; have e2 := congrArg Addr.block e; simp only at e2; omega)).trans ((World.cell?_setCell_other _ _ _ _ (by intro e; have e2 := congrArg Addr.block e; simp only at e2; omega)).trans h4))))), ((World.cell?_setCell_other _ _ _ _ (by intro e; have e2 := congrArg Addr.block e; simp only at e2; omega)).trans ((World.cell?_setCell_other _ _ _ _ (by intro e; have e2 := congrArg Addr.block e; simp only at e2; omega)).trans ((World.cell?_setCell_other _ _ _ _ (by intro e; have e2 := congrArg Addr.block e; simp only at e2; omega)).trans ((World.cell?_setCell_other _ _ _ _ (by intro e; have e2 := congrArg Addr.block e; simp only at e2; omega)).trans ((World.cell?_setCell_other _ _ _ _ (by intro e; have e2 := congrArg Addr.block e; simp only at e2; omega)).trans h5))))), ((World.cell?_setCell_other _ _ _ _ (by intro e; have e2 := congrArg Addr.block e; simp only at e2; omega)).trans ((World.cell?_setCell_other _ _ _ _ (by intro e; have e2 := congrArg Addr.block e; simp only at e2; omega)).trans ((World.cell?_setCell_other _ _ _ _ (by intro e; have e2 := congrArg Addr.block e; simp only at e2; omega)).trans ((World.cell?_setCell_other _ _ _ _ (by intro e; have e2 := congrArg Addr.block e; simp only at e2; omega)).trans ((World.cell?_setCell_other _ _ _ _ (by intro e; have e2 := congrArg Addr.block e; simp only at e2; omega)).trans h6))))), ((World.cell?_setCell_other _ _ _ _ (by intro e; have e2 := congrArg Addr.block e; simp only at e2; omega)).trans ((World.cell?_setCell_other _ _ _ _ (by intro e; have e2 := congrArg Addr.block e; simp only at e2; omega)).trans ((World.cell?_setCell_other _ _ _ _ (by intro e; have e2 := congrArg Addr.block e; simp only at e2; omega)).trans ((World.cell?_setCell_other _ _ _ _ (by intro e; have e2 := congrArg Addr.block e; simp only at e2; omega)).trans ((World.cell?_setCell_other _ _ _ _ (by intro e; have e2 := congrArg Addr.block e; simp only at e2; omega)).trans h7))))), ((((z.setCell (p := ⟨B, 0, none⟩) (by show _ ≤ B; omega) _).setCell (p := ⟨B, 1, none⟩) (by show _ ≤ B; omega) _).setCell (p := ⟨B, 2, none⟩) (by show _ ≤ B; omega) _).setCell (p := ⟨B, 3, none⟩) (by show _ ≤ B; omega) _).setCell (p := ⟨B, 4, none⟩) (by show _ ≤ B; omega) _⟩
theorem LB.lt {w W : World} {x y d f h t r c : Int} (H : LB w W x y d f h t r c) : w.heap.size + 1 < W.heap.size := World.block_lt_of_cell? W ⟨w.heap.size + 1, 0, none⟩ H.2.2.2.2.2.1
theorem LB.world {w W : World} {x y d f h t r c : Int} (_ : LB w W x y d f h t r c) : ∃ X, X = W := ⟨_, rfl⟩

set_option linter.unusedVariables false in
set_option maxRecDepth 100000 in
set_option maxHeartbeats 8000000 in
theorem washOnce_walk {H : Type} {enc : TypeId × Value → H} (w : World) (base : Nat)
    (v0 : Value) (d0 : DataW H) (p0 : List MemPlace) (o0 : Value.okWide Tryd.prog w .any base 25 v0) (k0 : DataW.Trod enc Tryd.prog w 0 (fun _ => true) true 25 v0 d0 p0)
    (v1 : Value) (d1 : DataW H) (p1 : List MemPlace) (o1 : Value.okWide Tryd.prog w .any base 31 v1) (k1 : DataW.Trod enc Tryd.prog w 0 (fun _ => true) true 31 v1 d1 p1)
    (p : Nat → Addr) (hs : Sent7 w p) :
    Calls Tryd.prog 6 #[v0, v1] w fun e w' => e = .returned (.bool true) ∧ Below w.heap.size w w' := by
  obtain ⟨x, y, d, f, h, rfl, hx, hy, hd, hf, hh⟩ := openCloth o0
  clear o0 k0
  obtain ⟨t, r, c, rfl, ht, hr, hc⟩ := openProgram o1
  clear o1 k1
  have HS := Lib.hid hs
  have CS := Lib.hid fun wx => specWashOnce_any x y d f h t r c wx hx hy hd hf hh ht hr hc
  have CI := Lib.hid fun wx (hs : Sent7 wx p) => implWashOnce_any p x y d f h t r c wx hs hx hy hd hf hh ht hr hc
  have T0 := Lib.hid fun wx => toCloth_any x y d f h wx
  have T1 := Lib.hid fun wx => toProgram_any t r c wx
  have L0 := Lib.hid (LB.made w x y d f h t r c)
  clear hx hy hd hf hh ht hr hc hs
  generalize (wasF x y d f h t r c).1 = q0 at *
  generalize (wasF x y d f h t r c).2.1 = q1 at *
  generalize (wasF x y d f h t r c).2.2.1 = q2 at *
  generalize (wasF x y d f h t r c).2.2.2.1 = q3 at *
  generalize (wasF x y d f h t r c).2.2.2.2.1 = q4 at *
  generalize (wasF x y d f h t r c).2.2.2.2.2 = q5 at *
  have e0 : (q0 != q0) = false := by simp
  have e1 : (q1 != q1) = false := by simp
  have e2 : (q2 != q2) = false := by simp
  have e3 : (q3 != q3) = false := by simp
  have e4 : (q4 != q4) = false := by simp
  have e5 : (q5 != q5) = false := by simp
  go_enter Tryd.func6, Tryd.ntmps6
  obtain ⟨X0, hX0⟩ : ∃ X0, X0 = ((w.alloc (.cells #[.int .i16 x, .int .i16 y, .int .i8 d, .int .i8 f, .int .i8 h] 25)).alloc (.cells #[.int .i8 t, .int .i8 r, .int .i8 c] 31)) := ⟨_, rfl⟩
  rw [← hX0] at L0
  have HX0 := Lib.hid hX0
  clear hX0
  go_upto_region 1 with fail
  rw [← HX0.out]
  go_cut [5, 6] from 9 to 17 (fun s5 s6 wx => ∃ B : Nat, s5 = .pointer (some ⟨B, 0, none⟩) ∧ s6 = .int .i64 q5 ∧ Hid (CBox wx B q0 q1 q2 q3 q4 ∧ LB w wx x y d f h t r c))
  case first =>
    obtain ⟨a0, a1, a2, a3, a4, a5, a6, a7, _⟩ := L0.out
    have sz0 := L0.out.lt
    have sz0' : w.heap.size < X0.heap.size := by omega
    go_region_with (first | (go_at_call 11; refine (T0.out _).mono ?_; rintro e w1 ⟨rfl, hB⟩; have L1 := Lib.hid (LB.next (w := w) (x := x) (y := y) (d := d) (f := f) (h := h) (t := t) (r := r) (c := c) (by first | exact L0.out | exact L0.out.next ((Below.refl _ _).drew) | exact (L0.out.next ((Below.refl _ _).alloc (Nat.le_refl _) _)).next ((Below.refl _ _).drew)) hB); obtain ⟨b0, b1, b2, b3, b4, b5, b6, b7, _⟩ := L1.out; have sz1 := L1.out.lt; first | (refine zb_with (B := X0.heap.size) hB ?_ ?_; (focus (refine ⟨?_, ?_, ?_, ?_, ?_, fun o => ?_⟩ <;> (simp [go_sem]; done))); intro ZZ) | skip) | (go_at_call 14; refine (T1.out _).mono ?_; rintro e w2 ⟨rfl, hB2⟩; have L2 := Lib.hid (LB.next (w := w) (x := x) (y := y) (d := d) (f := f) (h := h) (t := t) (r := r) (c := c) (by first | exact L1.out | exact L1.out.next ((Below.refl _ _).alloc (Nat.le_refl _) _)) hB2); have sz2 := L2.out.lt; first | (refine zb_with hB2 ZZ ?_; intro ZZ2) | (refine zb_with (B := w1.heap.size) hB2 ?_ ?_; (focus (refine ⟨?_, ?_, ?_, ?_, ?_, fun o => ?_⟩ <;> (simp [go_sem]; done))); intro ZZ2) | skip) | (go_at_call 18; refine (CS.out _).mono ?_; rintro e w3 ⟨rfl, hB3⟩; have L3 := Lib.hid (LB.next (w := w) (x := x) (y := y) (d := d) (f := f) (h := h) (t := t) (r := r) (c := c) (by first | exact L2.out | exact L2.out.next ((Below.refl _ _).alloc (Nat.le_refl _) _)) hB3); first | (refine zb_with hB3 ZZ2 ?_; intro ZZ3; have ZC := ZZ3; obtain ⟨x0, x1, x2, x3, x4, xf⟩ := ZC) | (refine zb_with (B := w2.heap.size) hB3 ?_ ?_; (focus (refine ⟨?_, ?_, ?_, ?_, ?_, fun o => ?_⟩ <;> (simp [go_sem]; done))); intro ZZ3; have ZC := ZZ3; obtain ⟨x0, x1, x2, x3, x4, xf⟩ := ZC) | skip))
    all_goals go_wp2_with fail
    all_goals go_meet
    all_goals first
      | exact ⟨_, rfl, rfl, Lib.hid ⟨CBox.stored ZZ3 _ _ _ _ _, LB.far L3.out (by omega) _ _ _ _ _⟩⟩
      | exact ⟨_, rfl, rfl, Lib.hid ⟨cbox_made _ _ _ _ _ _ _, L3.out.next ((Below.refl _ _).alloc (Nat.le_refl _) _)⟩⟩
  case rest =>
    obtain ⟨Bq, rfl, rfl, hc⟩ := hcut
    obtain ⟨X1, hX1⟩ := hc.out.2.world
    subst hX1
    have E := Lib.hid hc.out.1
    have L4 := Lib.hid hc.out.2
    clear hc L0 HX0
    go_upto_region 2 with fail
    go_cut [7, 8] from 17 to 25 (fun s7 s8 wx => ∃ B : Nat, s7 = .pointer (some ⟨B, 0, none⟩) ∧ s8 = .int .i64 q5 ∧ Hid (CBox wx B q0 q1 q2 q3 q4 ∧ CBox wx Bq q0 q1 q2 q3 q4 ∧ Below w.heap.size w wx))
    case first =>
      obtain ⟨a0, a1, a2, a3, a4, a5, a6, a7, _⟩ := L4.out
      have sz0 := L4.out.lt
      have sz0' : w.heap.size < X1.heap.size := by omega
      have sq0 := World.block_lt_of_cell? X1 _ E.out.1
      go_region_with (first | (go_at_call 11; refine (T0.out _).mono ?_; rintro e w1 ⟨rfl, hB⟩; have L1 := Lib.hid (LB.next (w := w) (x := x) (y := y) (d := d) (f := f) (h := h) (t := t) (r := r) (c := c) (by first | exact L4.out | exact L4.out.next ((Below.refl _ _).drew) | exact (L4.out.next ((Below.refl _ _).alloc (Nat.le_refl _) _)).next ((Below.refl _ _).drew)) hB); have E1 := Lib.hid (show CBox _ Bq q0 q1 q2 q3 q4 from CBox.below (by first | exact E.out | exact E.out.below ((Below.refl _ _).drew) | exact E.out.below ((Below.refl _ _).alloc (Nat.le_refl _) _) | exact (E.out.below ((Below.refl _ _).alloc (Nat.le_refl _) _)).below ((Below.refl _ _).drew)) hB); have sq1 := World.block_lt_of_cell? _ _ E1.out.1; obtain ⟨b0, b1, b2, b3, b4, b5, b6, b7, _⟩ := L1.out; have sz1 := L1.out.lt; first | (refine zb_with (B := X1.heap.size) hB ?_ ?_; (focus (refine ⟨?_, ?_, ?_, ?_, ?_, fun o => ?_⟩ <;> (simp [go_sem]; done))); intro ZZ) | skip) | (go_at_call 14; refine (T1.out _).mono ?_; rintro e w2 ⟨rfl, hB2⟩; have L2 := Lib.hid (LB.next (w := w) (x := x) (y := y) (d := d) (f := f) (h := h) (t := t) (r := r) (c := c) (by first | exact L1.out | exact L1.out.next ((Below.refl _ _).alloc (Nat.le_refl _) _)) hB2); have E2 := Lib.hid (show CBox _ Bq q0 q1 q2 q3 q4 from CBox.below (by first | exact E1.out | exact E1.out.below ((Below.refl _ _).drew) | exact E1.out.below ((Below.refl _ _).alloc (Nat.le_refl _) _) | exact (E1.out.below ((Below.refl _ _).alloc (Nat.le_refl _) _)).below ((Below.refl _ _).drew)) hB2); have sq2 := World.block_lt_of_cell? _ _ E2.out.1; have sz2 := L2.out.lt; first | (refine zb_with hB2 ZZ ?_; intro ZZ2) | (refine zb_with (B := w1.heap.size) hB2 ?_ ?_; (focus (refine ⟨?_, ?_, ?_, ?_, ?_, fun o => ?_⟩ <;> (simp [go_sem]; done))); intro ZZ2) | skip) | (go_at_call 19; refine (CI.out _ (HS.out.below (by first | exact L2.out.bel | exact (L2.out.next ((Below.refl _ _).alloc (Nat.le_refl _) _)).bel))).mono ?_; rintro e w3 ⟨rfl, hB3⟩; have L3 := Lib.hid (LB.next (w := w) (x := x) (y := y) (d := d) (f := f) (h := h) (t := t) (r := r) (c := c) (by first | exact L2.out | exact L2.out.next ((Below.refl _ _).alloc (Nat.le_refl _) _)) hB3); have E3 := Lib.hid (show CBox _ Bq q0 q1 q2 q3 q4 from CBox.below (by first | exact E2.out | exact E2.out.below ((Below.refl _ _).drew) | exact E2.out.below ((Below.refl _ _).alloc (Nat.le_refl _) _) | exact (E2.out.below ((Below.refl _ _).alloc (Nat.le_refl _) _)).below ((Below.refl _ _).drew)) hB3); have sq3 := World.block_lt_of_cell? _ _ E3.out.1; first | (refine zb_with hB3 ZZ2 ?_; intro ZZ3; have ZC := ZZ3; obtain ⟨x0, x1, x2, x3, x4, xf⟩ := ZC) | (refine zb_with (B := w2.heap.size) hB3 ?_ ?_; (focus (refine ⟨?_, ?_, ?_, ?_, ?_, fun o => ?_⟩ <;> (simp [go_sem]; done))); intro ZZ3; have ZC := ZZ3; obtain ⟨x0, x1, x2, x3, x4, xf⟩ := ZC) | skip))
      all_goals go_wp2_with fail
      all_goals go_meet
      all_goals first
        | exact ⟨_, rfl, rfl, Lib.hid ⟨CBox.stored ZZ3 _ _ _ _ _, CBox.far E3.out (by assumption) _ _ _ _ _, (LB.far L3.out (by omega) _ _ _ _ _).bel⟩⟩
        | exact ⟨_, rfl, rfl, Lib.hid ⟨cbox_made _ _ _ _ _ _ _, E3.out.below ((Below.refl _ _).alloc (Nat.le_refl _) _), (L3.out.next ((Below.refl _ _).alloc (Nat.le_refl _) _)).bel⟩⟩
    case rest =>
      obtain ⟨B2, rfl, rfl, hc⟩ := hcut
      have BB := Lib.hid hc.out.2.2
      obtain ⟨⟨g0, g1, g2, g3, g4⟩, ⟨k0, k1, k2, k3, k4⟩, _⟩ := hc.out
      clear hc
      go_wp2_with fail
      refine (eqCloth_same _ _ _ _ _ _).mono ?_
      rintro e w9 ⟨rfl, hB⟩
      have T9 := Lib.hid (BB.out.trans (hB.mono BB.out.size))
      clear hB g0 g1 g2 g3 g4 k0 k1 k2 k3 k4
      go_wp2
      go_ret
      exact ⟨rfl, T9.out⟩
end Go.Proofs.YtlmdojofjdfeeaaDoor
