/-
  Proved here: the law on OffBy answers true, for all arguments; no condition.
-/
import Derived.Test.YtekejhnhkifcfaaOfK
import Derived.Test.YtekejhnhkifcfaaFcS
import Derived.Deep.RegionWith
import Derived.Deep.DeepCutAuto
namespace Go.Proofs.Ytekejhnhkifcfaa
open Go.RowKit

theorem HeapAt.cells8 {W : World} {b : Nat} {x0 x1 x2 x3 x4 x5 x6 x7 : Int} (H : HeapAt W b 0 (z8 x0 x1 x2 x3 x4 x5 x6 x7)) : W.cell? ⟨b, 0, none⟩ = some (.int .i32 x0) ∧ W.cell? ⟨b, 1, none⟩ = some (.int .i32 x1) ∧ W.cell? ⟨b, 2, none⟩ = some (.int .i32 x2) ∧ W.cell? ⟨b, 3, none⟩ = some (.int .i32 x3) ∧ W.cell? ⟨b, 4, none⟩ = some (.int .i32 x4) ∧ W.cell? ⟨b, 5, none⟩ = some (.int .i32 x5) ∧ W.cell? ⟨b, 6, none⟩ = some (.int .i32 x6) ∧ W.cell? ⟨b, 7, none⟩ = some (.int .i32 x7) := by
  have a0 := H 0 (by omega)
  have a1 := H 1 (by omega)
  have a2 := H 2 (by omega)
  have a3 := H 3 (by omega)
  have a4 := H 4 (by omega)
  have a5 := H 5 (by omega)
  have a6 := H 6 (by omega)
  have a7 := H 7 (by omega)
  simp only [Nat.zero_add, z8] at a0 a1 a2 a3 a4 a5 a6 a7
  exact ⟨a0, a1, a2, a3, a4, a5, a6, a7⟩
/-- The arguments' boxes. -/
def LB (w W : World) (zx zy : Nat → Int) : Prop := HeapAt W w.heap.size 0 zx ∧ HeapAt W (w.heap.size + 1) 0 zy ∧ Below w.heap.size w W
theorem LB.lt {w W : World} {zx zy : Nat → Int} (H : LB w W zx zy) : w.heap.size + 1 < W.heap.size := H.2.1.lt
theorem LB.bel {w W : World} {zx zy : Nat → Int} (H : LB w W zx zy) : Below w.heap.size w W := H.2.2
theorem LB.keep {w W W' : World} {zx zy : Nat → Int} {B : Nat} (H : LB w W zx zy) (hB : Below B W W') (h2 : w.heap.size + 1 < B) : LB w W' zx zy := ⟨H.1.below hB (by omega), H.2.1.below hB h2, H.2.2.trans (hB.mono (by omega))⟩
theorem LB.next {w W W' : World} {zx zy : Nat → Int} (H : LB w W zx zy) (hB : Below W.heap.size W W') : LB w W' zx zy := H.keep hB H.lt
theorem LB.made (w : World) (x0 x1 x2 x3 x4 x5 x6 x7 y0 y1 y2 y3 y4 y5 y6 y7 : Int) (T U : TypeId) : LB w ((w.alloc (.cells #[.int .i32 x0, .int .i32 x1, .int .i32 x2, .int .i32 x3, .int .i32 x4, .int .i32 x5, .int .i32 x6, .int .i32 x7] T)).alloc (.cells #[.int .i32 y0, .int .i32 y1, .int .i32 y2, .int .i32 y3, .int .i32 y4, .int .i32 y5, .int .i32 y6, .int .i32 y7] U)) (z8 x0 x1 x2 x3 x4 x5 x6 x7) (z8 y0 y1 y2 y3 y4 y5 y6 y7) := by
  have e := heapAt_alloc (w.alloc (.cells #[.int .i32 x0, .int .i32 x1, .int .i32 x2, .int .i32 x3, .int .i32 x4, .int .i32 x5, .int .i32 x6, .int .i32 x7] T)) y0 y1 y2 y3 y4 y5 y6 y7 U
  rw [World.size_alloc] at e
  exact ⟨(heapAt_alloc w x0 x1 x2 x3 x4 x5 x6 x7 T).below ((Below.refl (w.heap.size + 1) _).alloc (by simp) _) (by omega), e, by go_grown⟩
theorem LB.world {w W : World} {zx zy : Nat → Int} (_ : LB w W zx zy) : ∃ X, X = W := ⟨_, rfl⟩
/-- A fraction's box. -/
def FrB (W : World) (B : Nat) (r s : Int) : Prop := W.cell? ⟨B, 0, none⟩ = some (.int .i64 r) ∧ W.cell? ⟨B, 1, none⟩ = some (.int .i64 s)
theorem FrB.lt {W : World} {B : Nat} {r s : Int} (H : FrB W B r s) : B < W.heap.size := World.block_lt_of_cell? _ _ H.1
theorem FrB.below {W W' : World} {B C : Nat} {r s : Int} (H : FrB W B r s) (hB : Below C W W') (h : B < C) : FrB W' B r s := ⟨kept hB h H.1, kept hB h H.2⟩
theorem FrB.next {W W' : World} {B : Nat} {r s : Int} (H : FrB W B r s) (hB : Below W.heap.size W W') : FrB W' B r s := H.below hB H.lt
theorem frB_alloc (W : World) (r s : Int) (T : TypeId) : FrB (W.alloc (.cells #[.int .i64 r, .int .i64 s] T)) W.heap.size r s := ⟨by simp [go_sem], by simp [go_sem]⟩
/-- An empty fraction's box. -/
def ZB (W : World) (B : Nat) : Prop := W.cell? ⟨B, 0, none⟩ = some (.int .i64 0) ∧ W.cell? ⟨B, 1, none⟩ = some (.int .i64 0) ∧ ∀ o : Nat, W.frozen? ⟨B, o, none⟩ = false
theorem ZB.next {W W' : World} {B : Nat} (H : ZB W B) (hB : Below W.heap.size W W') : ZB W' B := by
  have hl := World.block_lt_of_cell? W _ H.1
  obtain ⟨h0, h1, hf⟩ := H
  exact ⟨kept hB hl h0, kept hB hl h1, fun o => (hB.frozen (p := ⟨B, o, none⟩) hl).trans (hf o)⟩
theorem zb_with {W W' : World} {B : Nat} {G : Prop} (hB : Below W.heap.size W W') (h : ZB W B) (k : ZB W' B → G) : G := k (h.next hB)
theorem stored {W : World} {B : Nat} (H : ZB W B) (r s : Int) : FrB ((W.setCell ⟨B, 0, none⟩ (.int .i64 r)).setCell ⟨B, 1, none⟩ (.int .i64 s)) B r s := resF (.int .i64 r) (.int .i64 s) H.1 H.2.1 |>.imp (fun h => (World.cell?_setCell_other _ _ _ _ (by simp)).trans h) id
theorem st_below {C : Nat} (W : World) (B : Nat) (r s : Int) (h : C ≤ B) : Below C W ((W.setCell ⟨B, 0, none⟩ (.int .i64 r)).setCell ⟨B, 1, none⟩ (.int .i64 s)) := ((Below.refl C W).setCell (p := ⟨B, 0, none⟩) h _).setCell (p := ⟨B, 1, none⟩) h _
theorem LB.far {w W : World} {zx zy : Nat → Int} {B : Nat} (H : LB w W zx zy) (hne : w.heap.size + 1 < B) (r s : Int) : LB w ((W.setCell ⟨B, 0, none⟩ (.int .i64 r)).setCell ⟨B, 1, none⟩ (.int .i64 s)) zx zy := H.keep (st_below W B r s (C := B) (Nat.le_refl _)) hne
theorem FrB.far {W : World} {b B : Nat} {p q : Int} (H : FrB W b p q) (hne : b < B) (r s : Int) : FrB ((W.setCell ⟨B, 0, none⟩ (.int .i64 r)).setCell ⟨B, 1, none⟩ (.int .i64 s)) b p q := H.below (st_below W B r s (C := B) (Nat.le_refl _)) hne

set_option linter.unusedVariables false in
set_option maxRecDepth 100000 in
set_option maxHeartbeats 20000000 in
theorem offBy_walk {H : Type} {enc : TypeId × Value → H} (w : World) (base : Nat)
    (v0 : Value) (d0 : DataW H) (p0 : List MemPlace) (o0 : Value.okWide Try.prog w .any base 22 v0) (k0 : DataW.Trod enc Try.prog w 0 (fun _ => true) true 22 v0 d0 p0)
    (v1 : Value) (d1 : DataW H) (p1 : List MemPlace) (o1 : Value.okWide Try.prog w .any base 22 v1) (k1 : DataW.Trod enc Try.prog w 0 (fun _ => true) true 22 v1 d1 p1) :
    Calls Try.prog 9 #[v0, v1] w fun e w' => e = .returned (.bool true) ∧ Below w.heap.size w w' := by
  obtain ⟨x0, x1, x2, x3, x4, x5, x6, x7, rfl, h0, h1, h2, h3, h4, h5, h6, h7⟩ := open8 o0
  have hbx := bd32_z8 h0 h1 h2 h3 h4 h5 h6 h7
  clear h0 h1 h2 h3 h4 h5 h6 h7
  obtain ⟨y0, y1, y2, y3, y4, y5, y6, y7, rfl, h0, h1, h2, h3, h4, h5, h6, h7⟩ := open8 o1
  have hby := bd32_z8 h0 h1 h2 h3 h4 h5 h6 h7
  clear h0 h1 h2 h3 h4 h5 h6 h7 o0 k0 o1 k1
  have hs := fun wx => specOff_any x0 x1 x2 x3 x4 x5 x6 x7 y0 y1 y2 y3 y4 y5 y6 y7 wx hbx hby
  have hi := fun wx => implOff_any x0 x1 x2 x3 x4 x5 x6 x7 y0 y1 y2 y3 y4 y5 y6 y7 wx
  generalize offF (z8 x0 x1 x2 x3 x4 x5 x6 x7) (z8 y0 y1 y2 y3 y4 y5 y6 y7) = F at *
  obtain ⟨r, s, c⟩ := F
  simp only at hs hi
  have H1 := Lib.hid hs
  have H2 := Lib.hid hi
  clear hs hi hbx hby
  have hne : (c != c) = false := by simp
  have L0 := Lib.hid (LB.made w x0 x1 x2 x3 x4 x5 x6 x7 y0 y1 y2 y3 y4 y5 y6 y7 22 22)
  obtain ⟨X0, hX0⟩ : ∃ X0, X0 = ((w.alloc (.cells #[.int .i32 x0, .int .i32 x1, .int .i32 x2, .int .i32 x3, .int .i32 x4, .int .i32 x5, .int .i32 x6, .int .i32 x7] 22)).alloc (.cells #[.int .i32 y0, .int .i32 y1, .int .i32 y2, .int .i32 y3, .int .i32 y4, .int .i32 y5, .int .i32 y6, .int .i32 y7] 22)) := ⟨_, rfl⟩
  rw [← hX0] at L0
  have HX0 := Lib.hid hX0
  clear hX0
  go_enter Try.func9, Try.ntmps9
  go_upto_region 1 with fail
  rw [← HX0.out]
  go_cut [5, 6] from 9 to 17 (fun s5 s6 wx => ∃ B : Nat, s5 = .pointer (some ⟨B, 0, none⟩) ∧ s6 = .int .i64 c ∧ Hid (FrB wx B r s ∧ LB w wx (z8 x0 x1 x2 x3 x4 x5 x6 x7) (z8 y0 y1 y2 y3 y4 y5 y6 y7)))
  case first =>
    obtain ⟨a0, a1, a2, a3, a4, a5, a6, a7⟩ := L0.out.1.cells8
    obtain ⟨b0, b1, b2, b3, b4, b5, b6, b7⟩ := L0.out.2.1.cells8
    have sz0 := L0.out.lt
    have sz0' : w.heap.size < X0.heap.size := by omega
    go_region_with (first | (go_at_call 11; have LL := L1; refine (toHeap_any _ _ _ _ _ _ _ _ _).mono ?_; rintro e w2 ⟨rfl, hB2⟩; have L2 := Lib.hid (LB.next (w := w) (zx := (z8 x0 x1 x2 x3 x4 x5 x6 x7)) (zy := (z8 y0 y1 y2 y3 y4 y5 y6 y7)) (by first | exact L1.out | exact L1.out.next ((Below.refl _ _).alloc (Nat.le_refl _) _) | exact L1.out.next ((Below.refl _ _).drew) | exact (L1.out.next ((Below.refl _ _).alloc (Nat.le_refl _) _)).next ((Below.refl _ _).drew)) hB2); have sz2 := L2.out.lt; clear LL; first | (refine zb_with hB2 ZZ ?_; intro ZZ2) | (refine zb_with (B := w1.heap.size) hB2 ?_ ?_; (focus (refine ⟨?_, ?_, fun o => ?_⟩ <;> (simp [go_sem]; done))); intro ZZ2) | skip) | (go_at_call 11; refine (toHeap_any _ _ _ _ _ _ _ _ _).mono ?_; rintro e w1 ⟨rfl, hB1⟩; have L1 := Lib.hid (LB.next (w := w) (zx := (z8 x0 x1 x2 x3 x4 x5 x6 x7)) (zy := (z8 y0 y1 y2 y3 y4 y5 y6 y7)) (by first | exact L0.out | exact L0.out.next ((Below.refl _ _).drew) | exact L0.out.next ((Below.refl _ _).alloc (Nat.le_refl _) _) | exact (L0.out.next ((Below.refl _ _).alloc (Nat.le_refl _) _)).next ((Below.refl _ _).drew)) hB1); obtain ⟨b0, b1, b2, b3, b4, b5, b6, b7⟩ := L1.out.2.1.cells8; have sz1 := L1.out.lt; first | (refine zb_with (B := X0.heap.size) hB1 ?_ ?_; (focus (refine ⟨?_, ?_, fun o => ?_⟩ <;> (simp [go_sem]; done))); intro ZZ) | skip) | (go_at_call 31; refine (H1.out _).mono ?_; rintro e w3 ⟨rfl, hB3⟩; have L3 := Lib.hid (LB.next (w := w) (zx := (z8 x0 x1 x2 x3 x4 x5 x6 x7)) (zy := (z8 y0 y1 y2 y3 y4 y5 y6 y7)) (by first | exact L2.out | exact L2.out.next ((Below.refl _ _).alloc (Nat.le_refl _) _) | exact L2.out.next ((Below.refl _ _).drew)) hB3); first | (refine zb_with hB3 ZZ2 ?_; intro ZZ3; have ZC := ZZ3; obtain ⟨q0, q1, xf⟩ := ZC) | (refine zb_with (B := w2.heap.size) hB3 ?_ ?_; (focus (refine ⟨?_, ?_, fun o => ?_⟩ <;> (simp [go_sem]; done))); intro ZZ3; have ZC := ZZ3; obtain ⟨q0, q1, xf⟩ := ZC) | skip))
    all_goals go_wp2_with fail
    all_goals go_meet
    all_goals first
      | exact ⟨_, rfl, rfl, Lib.hid ⟨stored ZZ3 _ _, LB.far L3.out (by omega) _ _⟩⟩
      | exact ⟨_, rfl, rfl, Lib.hid ⟨frB_alloc _ _ _ _, L3.out.next ((Below.refl _ _).alloc (Nat.le_refl _) _)⟩⟩
  case rest =>
    obtain ⟨Bq, rfl, rfl, hc⟩ := hcut
    obtain ⟨X1, hX1⟩ := hc.out.2.world
    subst hX1
    have E0 := Lib.hid hc.out.1
    have L4 := Lib.hid hc.out.2
    clear hc L0 HX0
    go_upto_region 2 with fail
    go_cut [7, 8] from 17 to 25 (fun s7 s8 wx => ∃ B : Nat, s7 = .pointer (some ⟨B, 0, none⟩) ∧ s8 = .int .i64 c ∧ Hid (FrB wx B r s ∧ FrB wx Bq r s ∧ Below w.heap.size w wx))
    case first =>
      obtain ⟨a0, a1, a2, a3, a4, a5, a6, a7⟩ := L4.out.1.cells8
      obtain ⟨b0, b1, b2, b3, b4, b5, b6, b7⟩ := L4.out.2.1.cells8
      have sz0 := L4.out.lt
      have sz0' : w.heap.size < X1.heap.size := by omega
      have sq0 := E0.out.lt
      go_region_with (first | (go_at_call 11; have LL := L1; refine (toHeap_any _ _ _ _ _ _ _ _ _).mono ?_; rintro e w2 ⟨rfl, hB2⟩; have L2 := Lib.hid (LB.next (w := w) (zx := (z8 x0 x1 x2 x3 x4 x5 x6 x7)) (zy := (z8 y0 y1 y2 y3 y4 y5 y6 y7)) (by first | exact L1.out | exact L1.out.next ((Below.refl _ _).alloc (Nat.le_refl _) _) | exact L1.out.next ((Below.refl _ _).drew) | exact (L1.out.next ((Below.refl _ _).alloc (Nat.le_refl _) _)).next ((Below.refl _ _).drew)) hB2); have E2 := Lib.hid (show FrB _ Bq r s from FrB.next (by first | exact E1.out | exact E1.out.next ((Below.refl _ _).drew) | exact E1.out.next ((Below.refl _ _).alloc (Nat.le_refl _) _) | exact (E1.out.next ((Below.refl _ _).alloc (Nat.le_refl _) _)).next ((Below.refl _ _).drew)) hB2); have sq2 := E2.out.lt; have sz2 := L2.out.lt; clear LL; first | (refine zb_with hB2 ZZ ?_; intro ZZ2) | (refine zb_with (B := w1.heap.size) hB2 ?_ ?_; (focus (refine ⟨?_, ?_, fun o => ?_⟩ <;> (simp [go_sem]; done))); intro ZZ2) | skip) | (go_at_call 11; refine (toHeap_any _ _ _ _ _ _ _ _ _).mono ?_; rintro e w1 ⟨rfl, hB1⟩; have L1 := Lib.hid (LB.next (w := w) (zx := (z8 x0 x1 x2 x3 x4 x5 x6 x7)) (zy := (z8 y0 y1 y2 y3 y4 y5 y6 y7)) (by first | exact L4.out | exact L4.out.next ((Below.refl _ _).drew) | exact L4.out.next ((Below.refl _ _).alloc (Nat.le_refl _) _) | exact (L4.out.next ((Below.refl _ _).alloc (Nat.le_refl _) _)).next ((Below.refl _ _).drew)) hB1); have E1 := Lib.hid (show FrB _ Bq r s from FrB.next (by first | exact E0.out | exact E0.out.next ((Below.refl _ _).drew) | exact E0.out.next ((Below.refl _ _).alloc (Nat.le_refl _) _) | exact (E0.out.next ((Below.refl _ _).alloc (Nat.le_refl _) _)).next ((Below.refl _ _).drew)) hB1); have sq1 := E1.out.lt; obtain ⟨b0, b1, b2, b3, b4, b5, b6, b7⟩ := L1.out.2.1.cells8; have sz1 := L1.out.lt; first | (refine zb_with (B := X1.heap.size) hB1 ?_ ?_; (focus (refine ⟨?_, ?_, fun o => ?_⟩ <;> (simp [go_sem]; done))); intro ZZ) | skip) | (go_at_call 32; refine (H2.out _).mono ?_; rintro e w3 ⟨rfl, hB3⟩; have L3 := Lib.hid (LB.next (w := w) (zx := (z8 x0 x1 x2 x3 x4 x5 x6 x7)) (zy := (z8 y0 y1 y2 y3 y4 y5 y6 y7)) (by first | exact L2.out | exact L2.out.next ((Below.refl _ _).alloc (Nat.le_refl _) _) | exact L2.out.next ((Below.refl _ _).drew)) hB3); have E3 := Lib.hid (show FrB _ Bq r s from FrB.next (by first | exact E2.out | exact E2.out.next ((Below.refl _ _).drew) | exact E2.out.next ((Below.refl _ _).alloc (Nat.le_refl _) _) | exact (E2.out.next ((Below.refl _ _).alloc (Nat.le_refl _) _)).next ((Below.refl _ _).drew)) hB3); have sq3 := E3.out.lt; first | (refine zb_with hB3 ZZ2 ?_; intro ZZ3; have ZC := ZZ3; obtain ⟨q0, q1, xf⟩ := ZC) | (refine zb_with (B := w2.heap.size) hB3 ?_ ?_; (focus (refine ⟨?_, ?_, fun o => ?_⟩ <;> (simp [go_sem]; done))); intro ZZ3; have ZC := ZZ3; obtain ⟨q0, q1, xf⟩ := ZC) | skip))
      all_goals go_wp2_with fail
      all_goals go_meet
      all_goals first
        | exact ⟨_, rfl, rfl, Lib.hid ⟨stored ZZ3 _ _, FrB.far E3.out (by first | assumption | omega) _ _, (LB.far L3.out (by omega) _ _).bel⟩⟩
        | exact ⟨_, rfl, rfl, Lib.hid ⟨frB_alloc _ _ _ _, E3.out.below ((Below.refl _ _).alloc (Nat.le_refl _) _) E3.out.lt, (L3.out.next ((Below.refl _ _).alloc (Nat.le_refl _) _)).bel⟩⟩
    case rest =>
      obtain ⟨B2, rfl, rfl, hc⟩ := hcut
      have BB := Lib.hid hc.out.2.2
      obtain ⟨g0, g1⟩ := hc.out.1
      obtain ⟨k0, k1⟩ := hc.out.2.1
      clear hc
      go_wp2_with fail
      refine (eqFraction_same r s _).mono ?_
      rintro e w9 ⟨rfl, hB⟩
      have T9 := Lib.hid (BB.out.trans (hB.mono BB.out.size))
      clear hB g0 g1 k0 k1
      go_wp2
      go_ret
      exact ⟨rfl, T9.out⟩
end Go.Proofs.Ytekejhnhkifcfaa
