/-
  No statement is proved here: a move is brought, and NetMoves, in the program; condition: numbers small enough.
-/
import Derived.Test.YtphinokacggnfaaNetM
import Derived.Test.YtphinokacggnfaaBox5
namespace Go.Proofs.Ytphinokacggnfaa
open Go.ChangeShapes Go.WideShapes Go.ChangeAt Go.RowKit

theorem grownBy_set (W : World) (b a : Nat) (v : Value) : W.grownBy (W.setCell ⟨b, a, none⟩ v) (some b) :=
  ⟨rfl, rfl, rfl, by simp, fun i _ hne => Below.heap_setCell _ _ _ i (fun e => hne (by rw [e]))⟩
theorem grown_drew {w w' : World} {row : Option Nat} (h : w.grownBy w' row) : w.grownBy w'.drew row := ⟨h.os, h.tape, h.output, h.size, h.block⟩
theorem Box5.grown {W W' : World} {B : Nat} {f : Nat → Int} {row : Option Nat} (h : Box5 W B f) (hg : W.grownBy W' row) (hne : row ≠ some B) : Box5 W' B f := by
  have hk : W'.heap[B]? = W.heap[B]? := hg.block _ h.lt fun e => hne e.symm
  exact ⟨fun j hj => (World.cell?_of_block (w := W) (a := ⟨B, j, none⟩) hk).trans (h.1 j hj), fun o => (World.frozen?_of_block (w := W) (a := ⟨B, o, none⟩) hk).trans (h.2 o)⟩
set_option maxRecDepth 100000 in
set_option maxHeartbeats 4000000 in
theorem bring_any (B : Nat) (f : Nat → Int) (p q : Nat) (g : Int) (w : World) (h : Box5 w B f) (hp : p < 5) (hq : q < 5) (hpq : p ≠ q) (hg0 : 0 ≤ g) (hg1 : g ≤ 5000) (hin : Within f 100000000) :
    Calls Try.prog 43 #[.pointer (some ⟨B, 0, none⟩), .agg #[.int .i8 p, .int .i8 q, .int .i16 g]] w fun e w' => e = .returned (.tuple #[]) ∧ Box5 w' B (bringF f ((p : Int), (q : Int), g)) ∧ w.grownBy w' (some B) := by
  rw [bringF_eq hpq]
  obtain ⟨W0, hW0⟩ : ∃ W0, W0 = w.alloc (.cells #[.int .i8 p, .int .i8 q, .int .i16 g] 53) := ⟨_, rfl⟩
  have hlt := h.lt
  have G0 : w.grownBy W0 (some B) := by rw [hW0]; exact World.grownBy_alloc _ _ _
  have A0 : Box5 W0 B f := by rw [hW0]; exact h.below ((Below.refl _ _).alloc (Nat.le_refl _) _)
  have c0 : W0.cell? ⟨w.heap.size, 0, none⟩ = some (.int .i8 p) := by rw [hW0]; simp [go_sem]
  have c1 : W0.cell? ⟨w.heap.size, 1, none⟩ = some (.int .i8 q) := by rw [hW0]; simp [go_sem]
  have c2 : W0.cell? ⟨w.heap.size, 2, none⟩ = some (.int .i16 g) := by rw [hW0]; simp [go_sem]
  have HW0 := Lib.hid hW0
  clear hW0
  have p0 := A0.1 p hp
  have q0 := A0.1 q hq
  have ip := hin p
  have iq := hin q
  have fz := A0.2
  have P1 := (A0.put p hp (f p - g)).drew
  have q0' := P1.1 q hq
  rw [putP_ne hpq] at q0'
  have hbB : w.heap.size ≠ B := by omega
  have d0 : (W0.setCell ⟨B, p, none⟩ (.int .i32 (f p - g))).drew.cell? ⟨w.heap.size, 0, none⟩ = some (.int .i8 p) := (World.cell?_setCell_other _ _ _ _ (by intro e; exact hbB (congrArg Addr.block e).symm)).trans c0
  have d1 : (W0.setCell ⟨B, p, none⟩ (.int .i32 (f p - g))).drew.cell? ⟨w.heap.size, 1, none⟩ = some (.int .i8 q) := (World.cell?_setCell_other _ _ _ _ (by intro e; exact hbB (congrArg Addr.block e).symm)).trans c1
  have d2 : (W0.setCell ⟨B, p, none⟩ (.int .i32 (f p - g))).drew.cell? ⟨w.heap.size, 2, none⟩ = some (.int .i16 g) := (World.cell?_setCell_other _ _ _ _ (by intro e; exact hbB (congrArg Addr.block e).symm)).trans c2
  obtain ⟨W1, hW1⟩ : ∃ W1, W1 = (W0.setCell ⟨B, p, none⟩ (.int .i32 (f p - g))).drew := ⟨_, rfl⟩
  rw [← hW1] at P1 q0' d0 d1 d2
  have fz1 := P1.2
  have HW1 := Lib.hid hW1
  have Q1 := Lib.hid (P1.put q hq (f q + g)).drew
  have G1 : Hid (w.grownBy (W1.setCell ⟨B, q, none⟩ (.int .i32 (f q + g))).drew (some B)) := Lib.hid (grown_drew (grown_tr (by rw [hW1]; exact grown_drew (grown_tr G0 (grownBy_set _ _ _ _))) (grownBy_set _ _ _ _)))
  clear P1 hW1 A0 h hin
  generalize f p = fp at *
  generalize f q = fq at *
  go_enter Try.func43, Try.ntmps43
  go_wp2_with fail
  rw [← HW0.out]
  go_region
  rw [← HW1.out]
  clear p0 c0 c1 c2 fz
  go_wp2_with fail
  go_region
  go_wp2_with fail
  go_end0
  exact ⟨rfl, Q1.out, G1.out⟩
end Go.Proofs.Ytphinokacggnfaa
