/-
  No statement is proved here: what a reel of the program is with one thread more; condition: the numbers are within their kinds.
-/
import Derived.Test.YtaanjjmochfhgaaDoorMeets
import Derived.Test.YtaanjjmochfhgaaDoorReelA
import Derived.Deep.RegionHeld3
namespace Go.Proofs.YtaanjjmochfhgaaDoor
open Go.ChangeShapes Go.WideShapes Go.ChangeAt Go.RowKit

/-- The cells of a reel without threads and of a thread. -/
structure BT (w W : World) (x y : Nat) (h : Int) (m : Nat → Int) (d : Nat) (n o : Int) : Prop where
  hold : W.cell? ⟨x, 0, none⟩ = some (.int .i64 h)
  c0 : W.cell? ⟨x, 1, none⟩ = some (.int .u8 (m 0))
  c1 : W.cell? ⟨x, 2, none⟩ = some (.int .u8 (m 1))
  c2 : W.cell? ⟨x, 3, none⟩ = some (.int .u8 (m 2))
  c3 : W.cell? ⟨x, 4, none⟩ = some (.int .u8 (m 3))
  c4 : W.cell? ⟨x, 5, none⟩ = some (.int .u8 (m 4))
  c5 : W.cell? ⟨x, 6, none⟩ = some (.int .u8 (m 5))
  dye : W.cell? ⟨y, 0, none⟩ = some (.int .u8 d)
  long : W.cell? ⟨y, 1, none⟩ = some (.int .i64 n)
  off : W.cell? ⟨y, 2, none⟩ = some (.int .i64 o)
  bel : Below w.heap.size w W
theorem BT.below {w W W' : World} {x y : Nat} {h : Int} {m : Nat → Int} {d : Nat} {n o : Int} (hh : BT w W x y h m d n o) (hB : Below W.heap.size W W') : BT w W' x y h m d n o := by
  have k : ∀ {b q : Nat} {v : Value}, W.cell? ⟨b, q, none⟩ = some v → W'.cell? ⟨b, q, none⟩ = some v := fun hc => (hB.cell (p := ⟨_, _, none⟩) (World.block_lt_of_cell? W _ hc)).trans hc
  exact ⟨k hh.hold, k hh.c0, k hh.c1, k hh.c2, k hh.c3, k hh.c4, k hh.c5, k hh.dye, k hh.long, k hh.off, hh.bel.trans (hB.mono hh.bel.size)⟩

theorem bt_id {w W : World} {h : Int} {m : Nat → Int} {d : Nat} {n o : Int} (hh : W.cell? ⟨w.heap.size, 0, none⟩ = some (.int .i64 h) ∧ W.cell? ⟨w.heap.size, 1, none⟩ = some (.int .u8 (m 0)) ∧ W.cell? ⟨w.heap.size, 2, none⟩ = some (.int .u8 (m 1)) ∧ W.cell? ⟨w.heap.size, 3, none⟩ = some (.int .u8 (m 2)) ∧ W.cell? ⟨w.heap.size, 4, none⟩ = some (.int .u8 (m 3)) ∧ W.cell? ⟨w.heap.size, 5, none⟩ = some (.int .u8 (m 4)) ∧ W.cell? ⟨w.heap.size, 6, none⟩ = some (.int .u8 (m 5)) ∧ W.cell? ⟨w.heap.size + 1, 0, none⟩ = some (.int .u8 d) ∧ W.cell? ⟨w.heap.size + 1, 1, none⟩ = some (.int .i64 n) ∧ W.cell? ⟨w.heap.size + 1, 2, none⟩ = some (.int .i64 o) ∧ Below w.heap.size w W) : BT w W w.heap.size (w.heap.size + 1) h m d n o :=
  ⟨hh.1, hh.2.1, hh.2.2.1, hh.2.2.2.1, hh.2.2.2.2.1, hh.2.2.2.2.2.1, hh.2.2.2.2.2.2.1, hh.2.2.2.2.2.2.2.1, hh.2.2.2.2.2.2.2.2.1, hh.2.2.2.2.2.2.2.2.2.1, hh.2.2.2.2.2.2.2.2.2.2⟩
theorem bt_raw {w W : World} {h : Int} {m : Nat → Int} {d : Nat} {n o : Int} (hh : BT w W w.heap.size (w.heap.size + 1) h m d n o) : W.cell? ⟨w.heap.size, 0, none⟩ = some (.int .i64 h) ∧ W.cell? ⟨w.heap.size, 1, none⟩ = some (.int .u8 (m 0)) ∧ W.cell? ⟨w.heap.size, 2, none⟩ = some (.int .u8 (m 1)) ∧ W.cell? ⟨w.heap.size, 3, none⟩ = some (.int .u8 (m 2)) ∧ W.cell? ⟨w.heap.size, 4, none⟩ = some (.int .u8 (m 3)) ∧ W.cell? ⟨w.heap.size, 5, none⟩ = some (.int .u8 (m 4)) ∧ W.cell? ⟨w.heap.size, 6, none⟩ = some (.int .u8 (m 5)) ∧ W.cell? ⟨w.heap.size + 1, 0, none⟩ = some (.int .u8 d) ∧ W.cell? ⟨w.heap.size + 1, 1, none⟩ = some (.int .i64 n) ∧ W.cell? ⟨w.heap.size + 1, 2, none⟩ = some (.int .i64 o) ∧ Below w.heap.size w W :=
  ⟨hh.hold, hh.c0, hh.c1, hh.c2, hh.c3, hh.c4, hh.c5, hh.dye, hh.long, hh.off, hh.bel⟩
theorem bt_next {w W W' : World} {h : Int} {m : Nat → Int} {d : Nat} {n o : Int} (hh : W.cell? ⟨w.heap.size, 0, none⟩ = some (.int .i64 h) ∧ W.cell? ⟨w.heap.size, 1, none⟩ = some (.int .u8 (m 0)) ∧ W.cell? ⟨w.heap.size, 2, none⟩ = some (.int .u8 (m 1)) ∧ W.cell? ⟨w.heap.size, 3, none⟩ = some (.int .u8 (m 2)) ∧ W.cell? ⟨w.heap.size, 4, none⟩ = some (.int .u8 (m 3)) ∧ W.cell? ⟨w.heap.size, 5, none⟩ = some (.int .u8 (m 4)) ∧ W.cell? ⟨w.heap.size, 6, none⟩ = some (.int .u8 (m 5)) ∧ W.cell? ⟨w.heap.size + 1, 0, none⟩ = some (.int .u8 d) ∧ W.cell? ⟨w.heap.size + 1, 1, none⟩ = some (.int .i64 n) ∧ W.cell? ⟨w.heap.size + 1, 2, none⟩ = some (.int .i64 o) ∧ Below w.heap.size w W) (hB : Below W.heap.size W W') : W'.cell? ⟨w.heap.size, 0, none⟩ = some (.int .i64 h) ∧ W'.cell? ⟨w.heap.size, 1, none⟩ = some (.int .u8 (m 0)) ∧ W'.cell? ⟨w.heap.size, 2, none⟩ = some (.int .u8 (m 1)) ∧ W'.cell? ⟨w.heap.size, 3, none⟩ = some (.int .u8 (m 2)) ∧ W'.cell? ⟨w.heap.size, 4, none⟩ = some (.int .u8 (m 3)) ∧ W'.cell? ⟨w.heap.size, 5, none⟩ = some (.int .u8 (m 4)) ∧ W'.cell? ⟨w.heap.size, 6, none⟩ = some (.int .u8 (m 5)) ∧ W'.cell? ⟨w.heap.size + 1, 0, none⟩ = some (.int .u8 d) ∧ W'.cell? ⟨w.heap.size + 1, 1, none⟩ = some (.int .i64 n) ∧ W'.cell? ⟨w.heap.size + 1, 2, none⟩ = some (.int .i64 o) ∧ Below w.heap.size w W' := bt_raw ((bt_id hh).below hB)

set_option maxRecDepth 100000 in
set_option maxHeartbeats 4000000 in
theorem bareWith_any (h : Int) (m : Nat → Int) (d : Nat) (n o : Int) (w : World) (hd : d < 6) (h0 : 0 ≤ n) (h1 : n ≤ h) (h2 : h ≤ 2000) :
    Calls Tryd.prog 75 #[.agg #[.int .i64 h, .int .u8 (m 0), .int .u8 (m 1), .int .u8 (m 2), .int .u8 (m 3), .int .u8 (m 4), .int .u8 (m 5)], .agg #[.int .u8 d, .int .i64 n, .int .i64 o]] w fun e w' =>
      e = .returned (.iface 92 (.agg #[.int .i64 (h - n), .int .u8 (m d), .int .u8 (m 0), .int .u8 (m 1), .int .u8 (m 2), .int .u8 (m 3), .int .u8 (m 4), .int .u8 (m 5)])) ∧ Below w.heap.size w w' := by
  have HP := Lib.hid fun wx => partners_any m d wx hd
  unfold mv at HP
  have u1 : ∀ [Inhabited Nat], IntKind.i64.wrap (h - n) = h - n := by intro _; exact (IntWalk.i64_in _ (by omega)).trans (by omega)
  have u2 : ∀ [Inhabited Nat], wrap64 (h - n) = h - n := by intro _; exact (IntWalk.wrap64_in _ (by omega)).trans (by omega)
  have KK0 : BT w ((w.alloc (.cells #[.int .i64 h, .int .u8 (m 0), .int .u8 (m 1), .int .u8 (m 2), .int .u8 (m 3), .int .u8 (m 4), .int .u8 (m 5)] 61)).alloc (.cells #[.int .u8 d, .int .i64 n, .int .i64 o] 87)).drew w.heap.size (w.heap.size + 1) h m d n o :=
    ⟨by simp [go_sem], by simp [go_sem], by simp [go_sem], by simp [go_sem], by simp [go_sem], by simp [go_sem], by simp [go_sem], by simp [go_sem], by simp [go_sem], by simp [go_sem], (((Below.refl w.heap.size w).alloc (Nat.le_refl _) _).alloc (by simp) _).drew⟩
  generalize m d = z at *
  go_enter Tryd.func75, Tryd.ntmps75
  go_wp2_with fail
  have HH1 := Lib.hid KK0
  clear KK0
  go_region_held3 (fun w' => w'.cell? ⟨w.heap.size, 0, none⟩ = some (.int .i64 h) ∧ w'.cell? ⟨w.heap.size, 1, none⟩ = some (.int .u8 (m 0)) ∧ w'.cell? ⟨w.heap.size, 2, none⟩ = some (.int .u8 (m 1)) ∧ w'.cell? ⟨w.heap.size, 3, none⟩ = some (.int .u8 (m 2)) ∧ w'.cell? ⟨w.heap.size, 4, none⟩ = some (.int .u8 (m 3)) ∧ w'.cell? ⟨w.heap.size, 5, none⟩ = some (.int .u8 (m 4)) ∧ w'.cell? ⟨w.heap.size, 6, none⟩ = some (.int .u8 (m 5)) ∧ w'.cell? ⟨w.heap.size + 1, 0, none⟩ = some (.int .u8 d) ∧ w'.cell? ⟨w.heap.size + 1, 1, none⟩ = some (.int .i64 n) ∧ w'.cell? ⟨w.heap.size + 1, 2, none⟩ = some (.int .i64 o) ∧ Below w.heap.size w w')
    (first | assumption | exact bt_raw HH1.out | (refine bt_next ?_ hB; assumption))
    (first | (go_at_call 55; refine (HP.out _).mono ?_; rintro e w' ⟨rfl, hB⟩))
  have EE := Lib.hid (bt_id (w := w) (h := h) (m := m) (d := d) (n := n) (o := o) (by assumption)).bel
  go_wp2
  go_ret
  exact ⟨rfl, EE.out⟩
end Go.Proofs.YtaanjjmochfhgaaDoor
