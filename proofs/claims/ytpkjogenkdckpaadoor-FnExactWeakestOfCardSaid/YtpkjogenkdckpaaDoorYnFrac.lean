/-
  No statement is proved here: the fractions of yarns (count and rate), as the program and as the document's own text tell them; condition: the numbers are int16s.
-/
import Derived.Test.YtpkjogenkdckpaaDoorYnOk
import Derived.Test.YtpkjogenkdckpaaDoorMake
namespace Go.Proofs.YtpkjogenkdckpaaDoor
open Go.RowKit

/-- The cells of a yarn in a box. -/
def YBox (w : World) (b : Nat) (x y z : Int) : Prop := w.cell? ⟨b, 0, none⟩ = some (.int .i16 x) ∧ w.cell? ⟨b, 1, none⟩ = some (.int .i16 y) ∧ w.cell? ⟨b, 2, none⟩ = some (.int .i16 z)
theorem YBox.below {w w' : World} {b B : Nat} {x y z : Int} (h : YBox w b x y z) (hB : Below B w w') (hb : b < B) : YBox w' b x y z :=
  ⟨kept hB hb h.1, kept hB hb h.2.1, kept hB hb h.2.2⟩
/-- A box of two int64s that may be written. -/
def FBox (w : World) (b : Nat) (x y : Int) : Prop := (w.cell? ⟨b, 0, none⟩ = some (.int .i64 x) ∧ w.cell? ⟨b, 1, none⟩ = some (.int .i64 y)) ∧ w.frozen? ⟨b, 0, none⟩ = false ∧ w.frozen? ⟨b, 1, none⟩ = false
theorem FBox.below {w w' : World} {b B : Nat} {x y : Int} (h : FBox w b x y) (hB : Below B w w') (hb : b < B) : FBox w' b x y :=
  ⟨⟨kept hB hb h.1.1, kept hB hb h.1.2⟩, (hB.frozen (p := ⟨b, 0, none⟩) hb).trans h.2.1, (hB.frozen (p := ⟨b, 1, none⟩) hb).trans h.2.2⟩
theorem fbox_set {w : World} {b : Nat} {x y : Int} (h : FBox w b x y) (p q : Int) : ((w.setCell ⟨b, 0, none⟩ (.int .i64 p)).setCell ⟨b, 1, none⟩ (.int .i64 q)).cell? ⟨b, 0, none⟩ = some (.int .i64 p) ∧ ((w.setCell ⟨b, 0, none⟩ (.int .i64 p)).setCell ⟨b, 1, none⟩ (.int .i64 q)).cell? ⟨b, 1, none⟩ = some (.int .i64 q) := by
  have h0 := h.1.1
  have h1 := h.1.2
  exact ⟨by simp [go_sem, h0], by simp [go_sem, h1]⟩

set_option maxHeartbeats 1000000 in
theorem ratio_any (n d : Int) (w : World) (h : -9223372036854775807 ≤ n) (h' : n ≤ 9223372036854775807) (hd : 0 < d) (hd' : d ≤ 9223372036854775807) :
    Calls Tryd.prog 62 #[.int .i64 n, .int .i64 d] w fun e w' => e = .returned (.agg #[.int .i64 (lowN n d), .int .i64 (lowD n d)]) ∧ Below w.heap.size w w' := by
  have HM := Lib.hid fun wx => make_any n d wx h h' hd hd'
  generalize lowN n d = p at *
  generalize lowD n d = q at *
  go_enter Tryd.func62, Tryd.ntmps62
  go_wp2_with fail
  refine (HM.out _).mono ?_
  rintro e w3 ⟨rfl, hB⟩
  have B1 := Lib.hid (((Below.refl w.heap.size w).alloc (Nat.le_refl _) _).trans (hB.mono (by simp)))
  have hF : FBox w3 w.heap.size 0 0 := FBox.below (w := w.alloc _) ⟨⟨by simp [go_sem], by simp [go_sem]⟩, by simp [go_sem], by simp [go_sem]⟩ hB (by simp)
  have ht := fbox_set hF p q
  obtain ⟨⟨f0, f1⟩, g0, g1⟩ := hF
  clear hB
  go_wp2_with fail
  refine bodyPost_ret (v := .agg #[.int .i64 p, .int .i64 q]) (by simp [results, go_sem, ht.1, ht.2, Tryd.f62]) rfl ?_
  exact ⟨rfl, (B1.out.setCell (Nat.le_refl _) _).setCell (Nat.le_refl _) _⟩

theorem low_bd (n d : Int) (hd : 0 < d) : lowN n d = n.tdiv (Int.gcd n d : Int) ∧ lowD n d = d.tdiv (Int.gcd n d : Int) := by unfold lowN lowD; rw [if_neg (by omega)]; exact ⟨rfl, rfl⟩


set_option maxHeartbeats 1000000 in
theorem count_any (a b c : Int) (w : World) (hok : okY (a, b, c) = true) :
    Calls Tryd.prog 63 #[.agg #[.int .i16 a, .int .i16 b, .int .i16 c]] w fun e w' => e = .returned (.agg #[.int .i64 (lowN a c), .int .i64 (lowD a c)]) ∧ Below w.heap.size w w' := by
  obtain ⟨⟨k1, k2⟩, ⟨k3, k4⟩, k5, k6⟩ := okY_of hok
  have HR := Lib.hid fun wx => reduced_any a c wx (by omega) (by omega) (by omega) (by omega) (by omega)
  generalize lowN a c = p at *
  generalize lowD a c = q at *
  clear hok
  go_enter Tryd.func63, Tryd.ntmps63
  go_wp2_with fail
  refine (HR.out _).mono ?_
  rintro e w3 ⟨rfl, hB⟩
  have B1 := Lib.hid ((((Below.refl w.heap.size w).alloc (Nat.le_refl _) _).alloc (by simp) _).trans (hB.mono (by simp; omega)))
  have hF : FBox w3 (w.heap.size + 1) 0 0 := FBox.below (w := (w.alloc _).alloc _) ⟨⟨by simp [go_sem], by simp [go_sem]⟩, by simp [go_sem], by simp [go_sem]⟩ hB (by simp)
  have ht := fbox_set hF p q
  obtain ⟨⟨f0, f1⟩, g0, g1⟩ := hF
  clear hB
  go_wp2_with fail
  refine bodyPost_ret (v := .agg #[.int .i64 p, .int .i64 q]) (by simp [results, go_sem, ht.1, ht.2, Tryd.f63]) rfl ?_
  exact ⟨rfl, (B1.out.setCell (Nat.le_succ _) _).setCell (Nat.le_succ _) _⟩
end Go.Proofs.YtpkjogenkdckpaaDoor
