/-
  No statement is proved here: places that come in as an argument, and the law's copy of them; no condition.
-/
import Derived.Test.YtphinokacggnfaaPlaceL
namespace Go.Proofs.Ytphinokacggnfaa
open Go.ChangeShapes Go.WideShapes Go.ChangeAt Go.RowKit

def fiveP (a b c d e : Int) : Nat → Int
  | 0 => a
  | 1 => b
  | 2 => c
  | 3 => d
  | 4 => e
  | _ => 0
def I32s (f : Nat → Int) : Prop := (∀ j, j < 5 → -2147483648 ≤ f j ∧ f j ≤ 2147483647) ∧ ∀ j, 5 ≤ j → f j = 0
set_option maxRecDepth 100000 in
theorem open_places {w : World} {v : Value} {base : Nat} (o : Value.okWide Try.prog w .any base 30 v) : ∃ f, v = pval f ∧ I32s f := by
  obtain ⟨vs, rfl, n0, r0, rfl, h0, n1, r1, rfl, h1, n2, r2, rfl, h2, n3, r3, rfl, h3, n4, r4, rfl, h4, rfl⟩ := open_cells (ts := [21, 21, 21, 21, 21]) (ks := [.i32, .i32, .i32, .i32, .i32]) o (by kernel_rfl) (by kernel_rfl) (by kernel_rfl) (by kernel_rfl)
  have u : ∀ {n : Int}, IntKind.i32.has n → -2147483648 ≤ n ∧ n ≤ 2147483647 := fun h => h
  refine ⟨fiveP n0 n1 n2 n3 n4, rfl, fun k hk => ?_, fun k hk => ?_⟩
  · match k, hk with
    | 0, _ => exact u h0
    | 1, _ => exact u h1
    | 2, _ => exact u h2
    | 3, _ => exact u h3
    | 4, _ => exact u h4
  · match k, hk with
    | n + 5, _ => rfl
/-- The facts on the box of places, under one name. -/
def BoxP (w W : World) (m : Nat → Int) : Prop := W.cell? ⟨w.heap.size, 0, none⟩ = some (.int .i32 (m 0)) ∧ W.cell? ⟨w.heap.size, 1, none⟩ = some (.int .i32 (m 1)) ∧ W.cell? ⟨w.heap.size, 2, none⟩ = some (.int .i32 (m 2)) ∧ W.cell? ⟨w.heap.size, 3, none⟩ = some (.int .i32 (m 3)) ∧ W.cell? ⟨w.heap.size, 4, none⟩ = some (.int .i32 (m 4)) ∧ Below w.heap.size w W ∧ w.heap.size < W.heap.size
theorem boxp_below {w W W' : World} {m : Nat → Int} (h : BoxP w W m) (hB : Below W.heap.size W W') : BoxP w W' m := by
  obtain ⟨h0, h1, h2, h3, h4, hb, hz⟩ := h
  have k : ∀ {b o : Nat} {v : Value}, W.cell? ⟨b, o, none⟩ = some v → W'.cell? ⟨b, o, none⟩ = some v := fun hc => (hB.cell (p := ⟨_, _, none⟩) (World.block_lt_of_cell? W _ hc)).trans hc
  exact ⟨k h0, k h1, k h2, k h3, k h4, hb.trans (hB.mono hb.size), Nat.lt_of_lt_of_le hz hB.size⟩
theorem boxp_made (w : World) (m : Nat → Int) : BoxP w (w.alloc (.cells #[.int .i32 (m 0), .int .i32 (m 1), .int .i32 (m 2), .int .i32 (m 3), .int .i32 (m 4)] 30)) m := by
  have M0 := plat_made w 30 m
  exact ⟨M0 0 (by omega), M0 1 (by omega), M0 2 (by omega), M0 3 (by omega), M0 4 (by omega), (Below.refl _ _).alloc (Nat.le_refl _) _, by simp only [World.size_alloc]; omega⟩
theorem BoxP.under {w W : World} {m : Nat → Int} (h : BoxP w W m) : Below w.heap.size w W := h.2.2.2.2.2.1
theorem BoxP.room {w W : World} {m : Nat → Int} (h : BoxP w W m) : w.heap.size < W.heap.size := h.2.2.2.2.2.2
theorem boxp_grown {w W W' : World} {m : Nat → Int} {row : Option Nat} (h : BoxP w W m) (hg : W.grownBy W' row) (hne : ∀ k, row = some k → w.heap.size < k) : BoxP w W' m := by
  obtain ⟨h0, h1, h2, h3, h4, hb, hz⟩ := h
  have hk : W'.heap[w.heap.size]? = W.heap[w.heap.size]? := hg.block _ hz fun e => by
    have := hne _ e.symm
    omega
  have k : ∀ {o : Nat} {v : Value}, W.cell? ⟨w.heap.size, o, none⟩ = some v → W'.cell? ⟨w.heap.size, o, none⟩ = some v := fun hc => (World.cell?_of_block (w := W) (a := ⟨w.heap.size, _, none⟩) hk).trans hc
  exact ⟨k h0, k h1, k h2, k h3, k h4, hb.grown hg hb.size (fun j hj => Nat.le_of_lt (hne j hj)), Nat.lt_of_lt_of_le hz hg.size⟩
set_option maxHeartbeats 2000000 in
theorem toPlaces_any (f : Nat → Int) (w : World) : Calls Try.prog 29 #[pval f] w fun e w' => e = .returned (pval f) ∧ Below w.heap.size w w' := by
  unfold pval
  generalize f 0 = x0 at *
  generalize f 1 = x1 at *
  generalize f 2 = x2 at *
  generalize f 3 = x3 at *
  generalize f 4 = x4 at *
  go_enter Try.func29, Try.ntmps29
  go_wp2
  go_rounds 6
  refine bodyPost_ret (v := .agg #[.int .i32 x0, .int .i32 x1, .int .i32 x2, .int .i32 x3, .int .i32 x4]) (by simp [results, go_sem, Try.f29]) rfl ?_
  exact ⟨rfl, by go_grown⟩
end Go.Proofs.Ytphinokacggnfaa
