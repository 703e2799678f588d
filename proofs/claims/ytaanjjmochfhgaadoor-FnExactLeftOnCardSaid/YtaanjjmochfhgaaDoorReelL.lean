/-
  No statement is proved here: what a reel with threads of the program is with one thread more; condition: the numbers are within their kinds.
-/
import Derived.Test.YtaanjjmochfhgaaDoorReel
namespace Go.Proofs.YtaanjjmochfhgaaDoor
open Go.ChangeShapes Go.WideShapes Go.ChangeAt Go.RowKit

/-- The cells of a reel with threads and of a thread. -/
structure LT (w W : World) (x y : Nat) (l f : Int) (m : Nat → Int) (d : Nat) (n o : Int) : Prop where
  left : W.cell? ⟨x, 0, none⟩ = some (.int .i64 l)
  fits : W.cell? ⟨x, 1, none⟩ = some (.int .u8 f)
  c0 : W.cell? ⟨x, 2, none⟩ = some (.int .u8 (m 0))
  c1 : W.cell? ⟨x, 3, none⟩ = some (.int .u8 (m 1))
  c2 : W.cell? ⟨x, 4, none⟩ = some (.int .u8 (m 2))
  c3 : W.cell? ⟨x, 5, none⟩ = some (.int .u8 (m 3))
  c4 : W.cell? ⟨x, 6, none⟩ = some (.int .u8 (m 4))
  c5 : W.cell? ⟨x, 7, none⟩ = some (.int .u8 (m 5))
  dye : W.cell? ⟨y, 0, none⟩ = some (.int .u8 d)
  long : W.cell? ⟨y, 1, none⟩ = some (.int .i64 n)
  off : W.cell? ⟨y, 2, none⟩ = some (.int .i64 o)
  free : W.frozen? ⟨x, 1, none⟩ = false
  bel : Below w.heap.size w W
theorem LT.below {w W W' : World} {x y : Nat} {l f : Int} {m : Nat → Int} {d : Nat} {n o : Int} (hh : LT w W x y l f m d n o) (hB : Below W.heap.size W W') : LT w W' x y l f m d n o := by
  have k : ∀ {b q : Nat} {v : Value}, W.cell? ⟨b, q, none⟩ = some v → W'.cell? ⟨b, q, none⟩ = some v := fun hc => (hB.cell (p := ⟨_, _, none⟩) (World.block_lt_of_cell? W _ hc)).trans hc
  exact ⟨k hh.left, k hh.fits, k hh.c0, k hh.c1, k hh.c2, k hh.c3, k hh.c4, k hh.c5, k hh.dye, k hh.long, k hh.off, (hB.frozen (p := ⟨x, 1, none⟩) (World.block_lt_of_cell? W _ hh.fits)).trans hh.free, hh.bel.trans (hB.mono hh.bel.size)⟩

set_option maxRecDepth 100000 in
set_option maxHeartbeats 8000000 in
theorem loadedWith_any (l f : Int) (m : Nat → Int) (d : Nat) (n o : Int) (w : World) (hd : d < 6) (h0 : 0 ≤ n) (h1 : n ≤ l) (h2 : l ≤ 2000) :
    Calls Tryd.prog 78 #[.agg #[.int .i64 l, .int .u8 f, .int .u8 (m 0), .int .u8 (m 1), .int .u8 (m 2), .int .u8 (m 3), .int .u8 (m 4), .int .u8 (m 5)], .agg #[.int .u8 d, .int .i64 n, .int .i64 o]] w fun e w' =>
      e = .returned (.iface 92 (.agg #[.int .i64 (l - n), .int .u8 (bits BinOp.and IntKind.u8 f (m d)), .int .u8 (m 0), .int .u8 (m 1), .int .u8 (m 2), .int .u8 (m 3), .int .u8 (m 4), .int .u8 (m 5)])) ∧ Below w.heap.size w w' := by
  have HP := Lib.hid fun wx => partners_any m d wx hd
  unfold mv at HP
  have u1 : ∀ [Inhabited Nat], IntKind.i64.wrap (l - n) = l - n := by intro _; exact (IntWalk.i64_in _ (by omega)).trans (by omega)
  have u2 : ∀ [Inhabited Nat], wrap64 (l - n) = l - n := by intro _; exact (IntWalk.wrap64_in _ (by omega)).trans (by omega)
  generalize m d = z at *
  obtain ⟨a, ha⟩ : ∃ a, bits BinOp.and IntKind.u8 f z = a := ⟨_, rfl⟩
  rw [ha]
  go_enter Tryd.func78, Tryd.ntmps78
  go_wp2_with fail
  have KK : LT w ((w.alloc (.cells #[.int .i64 (l - n), .int .u8 f, .int .u8 (m 0), .int .u8 (m 1), .int .u8 (m 2), .int .u8 (m 3), .int .u8 (m 4), .int .u8 (m 5)] 92)).alloc (.cells #[.int .u8 d, .int .i64 n, .int .i64 o] 87)).drew w.heap.size (w.heap.size + 1) (l - n) f m d n o :=
    ⟨by simp [go_sem], by simp [go_sem], by simp [go_sem], by simp [go_sem], by simp [go_sem], by simp [go_sem], by simp [go_sem], by simp [go_sem], by simp [go_sem], by simp [go_sem], by simp [go_sem], by simp [go_sem], (((Below.refl w.heap.size w).alloc (Nat.le_refl _) _).alloc (by simp) _).drew⟩
  go_region_with (first
    | (go_at_call 55; refine (HP.out _).mono ?_; rintro e w' ⟨rfl, hB⟩; have KN := LT.below KK hB; obtain ⟨k0, k1, k2, k3, k4, k5, k6, k7, k8, k9, k10, k11, kb⟩ := KN; have EE := Lib.hid (kb.setCell (p := ⟨w.heap.size, 1, none⟩) (Nat.le_refl _) (.int .u8 a)); clear hB kb))
  all_goals
    have s1 : (w'.setCell ⟨w.heap.size, 1, none⟩ (.int .u8 a)).cell? ⟨w.heap.size, 1, none⟩ = some (.int .u8 a) := World.cell?_setCell_same' _ _ _ (by rw [k1]; rfl)
    have s0 := (World.cell?_setCell_other w' ⟨w.heap.size, 1, none⟩ ⟨w.heap.size, 0, none⟩ (.int .u8 a) (fun hh => by have := congrArg Addr.off hh; simp at this)).trans k0
    have s2 := (World.cell?_setCell_other w' ⟨w.heap.size, 1, none⟩ ⟨w.heap.size, 2, none⟩ (.int .u8 a) (fun hh => by have := congrArg Addr.off hh; simp at this)).trans k2
    have s3 := (World.cell?_setCell_other w' ⟨w.heap.size, 1, none⟩ ⟨w.heap.size, 3, none⟩ (.int .u8 a) (fun hh => by have := congrArg Addr.off hh; simp at this)).trans k3
    have s4 := (World.cell?_setCell_other w' ⟨w.heap.size, 1, none⟩ ⟨w.heap.size, 4, none⟩ (.int .u8 a) (fun hh => by have := congrArg Addr.off hh; simp at this)).trans k4
    have s5 := (World.cell?_setCell_other w' ⟨w.heap.size, 1, none⟩ ⟨w.heap.size, 5, none⟩ (.int .u8 a) (fun hh => by have := congrArg Addr.off hh; simp at this)).trans k5
    have s6 := (World.cell?_setCell_other w' ⟨w.heap.size, 1, none⟩ ⟨w.heap.size, 6, none⟩ (.int .u8 a) (fun hh => by have := congrArg Addr.off hh; simp at this)).trans k6
    have s7 := (World.cell?_setCell_other w' ⟨w.heap.size, 1, none⟩ ⟨w.heap.size, 7, none⟩ (.int .u8 a) (fun hh => by have := congrArg Addr.off hh; simp at this)).trans k7
    clear k0 k1 k2 k3 k4 k5 k6 k7 k8 k9 k10 k11 KK
    go_wp2_with fail
    go_ret
    exact ⟨rfl, EE.out⟩
end Go.Proofs.YtaanjjmochfhgaaDoor
