/-
  No statement is proved here: the rates of yarns, as the program and as the document's own text tell them; condition: the numbers are int16s.
-/
import Derived.Test.YtpkjogenkdckpaaYnFrac
namespace Go.Proofs.Ytpkjogenkdckpaa
open Go.RowKit

/-- What TwistRate answers. -/
def rateF (a b c : Int) : Int × Int × Int := if okY (a, b, c) = true then (lowN b a, lowD b a, 0) else (0, 0, 1)

set_option maxRecDepth 100000 in
set_option maxHeartbeats 2000000 in
theorem specTwistRate_any (a b c : Int) (w : World) (h16 : Is16 (a, b, c)) :
    Calls Try.prog 18 #[.agg #[.int .i16 a, .int .i16 b, .int .i16 c]] w fun e w' => e = .returned (.tuple #[.agg #[.int .i64 (rateF a b c).1, .int .i64 (rateF a b c).2.1], .int .i64 (rateF a b c).2.2]) ∧ Below w.heap.size w w' := by
  have HV := fun wx => l03Yarn_any a b c wx h16
  cases hok : okY (a, b, c) with
  | false =>
    rw [show rateF a b c = (0, 0, 1) by simp [rateF, hok]]
    rw [hok] at HV
    have HV := Lib.hid HV
    clear hok h16
    go_enter Try.func18, Try.ntmps18
    go_wp2_with fail
    refine (HV.out _).mono ?_
    rintro e w3 ⟨rfl, hB⟩
    have B1 := Lib.hid ((((Below.refl w.heap.size w).alloc (Nat.le_refl _) _).alloc (by simp) _).trans (hB.mono (by simp; omega)))
    have hF : FBox w3 (w.heap.size + 1) 0 0 := FBox.below (w := (w.alloc _).alloc _) ⟨⟨by simp [go_sem], by simp [go_sem]⟩, by simp [go_sem], by simp [go_sem]⟩ hB (by simp)
    have ht := fbox_set hF 0 0
    obtain ⟨⟨f0, f1⟩, g0, g1⟩ := hF
    clear hB
    go_wp2_with fail
    refine bodyPost_ret (v := .tuple #[.agg #[.int .i64 0, .int .i64 0], .int .i64 1]) (by simp [results, go_sem, ht.1, ht.2, Try.f18]) rfl ?_
    exact ⟨rfl, (B1.out.setCell (Nat.le_succ _) _).setCell (Nat.le_succ _) _⟩
  | true =>
    rw [show rateF a b c = (lowN b a, lowD b a, 0) by simp [rateF, hok]]
    rw [hok] at HV
    have HV := Lib.hid HV
    obtain ⟨⟨k1, k2⟩, ⟨k3, k4⟩, k5, k6⟩ := okY_of hok
    have HR := Lib.hid fun wx => ratio_any b a wx (by omega) (by omega) (by omega) (by omega)
    generalize lowN b a = p at *
    generalize lowD b a = q at *
    clear hok h16
    go_enter Try.func18, Try.ntmps18
    go_wp2_with fail
    refine (HV.out _).mono ?_
    rintro e w3 ⟨rfl, hB⟩
    have B1 := Lib.hid ((((Below.refl w.heap.size w).alloc (Nat.le_refl _) _).alloc (by simp) _).trans (hB.mono (by simp; omega)))
    have hF : FBox w3 (w.heap.size + 1) 0 0 := FBox.below (w := (w.alloc _).alloc _) ⟨⟨by simp [go_sem], by simp [go_sem]⟩, by simp [go_sem], by simp [go_sem]⟩ hB (by simp)
    have hY : YBox w3 w.heap.size a b c := YBox.below (w := (w.alloc _).alloc _) ⟨by simp [go_sem], by simp [go_sem], by simp [go_sem]⟩ hB (by simp; omega)
    have hz := hB.size
    simp only [World.size_alloc] at hz
    have HF := Lib.hid hF
    obtain ⟨y0, y1, y2⟩ := hY
    clear hB hF
    go_wp2_with fail
    refine (HR.out _).mono ?_
    rintro e w4 ⟨rfl, hB⟩
    have B2 := Lib.hid (B1.out.trans (hB.mono B1.out.size))
    have hF : FBox w4 (w.heap.size + 1) 0 0 := HF.out.below hB (by omega)
    have ht := fbox_set hF p q
    obtain ⟨⟨f0, f1⟩, g0, g1⟩ := hF
    clear hB y0 y1 y2
    go_wp2_with fail
    refine bodyPost_ret (v := .tuple #[.agg #[.int .i64 p, .int .i64 q], .int .i64 0]) (by simp [results, go_sem, ht.1, ht.2, Try.f18]) rfl ?_
    exact ⟨rfl, (B2.out.setCell (Nat.le_succ _) _).setCell (Nat.le_succ _) _⟩

set_option maxRecDepth 100000 in
set_option maxHeartbeats 2000000 in
theorem implTwistRate_any (a b c : Int) (w : World) (h16 : Is16 (a, b, c)) :
    Calls Try.prog 19 #[.agg #[.int .i16 a, .int .i16 b, .int .i16 c]] w fun e w' => e = .returned (.tuple #[.agg #[.int .i64 (rateF a b c).1, .int .i64 (rateF a b c).2.1], .int .i64 (rateF a b c).2.2]) ∧ Below w.heap.size w w' := by
  have HV := fun wx => validYarn_any a b c wx h16
  cases hok : okY (a, b, c) with
  | false =>
    rw [show rateF a b c = (0, 0, 1) by simp [rateF, hok]]
    rw [hok] at HV
    have HV := Lib.hid HV
    clear hok h16
    go_enter Try.func19, Try.ntmps19
    go_wp2_with fail
    refine (HV.out _).mono ?_
    rintro e w3 ⟨rfl, hB⟩
    have B1 := Lib.hid ((((Below.refl w.heap.size w).alloc (Nat.le_refl _) _).alloc (by simp) _).trans (hB.mono (by simp; omega)))
    have hF : FBox w3 (w.heap.size + 1) 0 0 := FBox.below (w := (w.alloc _).alloc _) ⟨⟨by simp [go_sem], by simp [go_sem]⟩, by simp [go_sem], by simp [go_sem]⟩ hB (by simp)
    have ht := fbox_set hF 0 0
    obtain ⟨⟨f0, f1⟩, g0, g1⟩ := hF
    clear hB
    go_wp2_with fail
    refine bodyPost_ret (v := .tuple #[.agg #[.int .i64 0, .int .i64 0], .int .i64 1]) (by simp [results, go_sem, ht.1, ht.2, Try.f19]) rfl ?_
    exact ⟨rfl, (B1.out.setCell (Nat.le_succ _) _).setCell (Nat.le_succ _) _⟩
  | true =>
    rw [show rateF a b c = (lowN b a, lowD b a, 0) by simp [rateF, hok]]
    rw [hok] at HV
    have HV := Lib.hid HV
    obtain ⟨⟨k1, k2⟩, ⟨k3, k4⟩, k5, k6⟩ := okY_of hok
    have HR := Lib.hid fun wx => reduced_any b a wx (by omega) (by omega) (by omega) (by omega) (by omega)
    generalize lowN b a = p at *
    generalize lowD b a = q at *
    clear hok h16
    go_enter Try.func19, Try.ntmps19
    go_wp2_with fail
    refine (HV.out _).mono ?_
    rintro e w3 ⟨rfl, hB⟩
    have B1 := Lib.hid ((((Below.refl w.heap.size w).alloc (Nat.le_refl _) _).alloc (by simp) _).trans (hB.mono (by simp; omega)))
    have hF : FBox w3 (w.heap.size + 1) 0 0 := FBox.below (w := (w.alloc _).alloc _) ⟨⟨by simp [go_sem], by simp [go_sem]⟩, by simp [go_sem], by simp [go_sem]⟩ hB (by simp)
    have hY : YBox w3 w.heap.size a b c := YBox.below (w := (w.alloc _).alloc _) ⟨by simp [go_sem], by simp [go_sem], by simp [go_sem]⟩ hB (by simp; omega)
    have hz := hB.size
    simp only [World.size_alloc] at hz
    have HF := Lib.hid hF
    obtain ⟨y0, y1, y2⟩ := hY
    clear hB hF
    go_wp2_with fail
    refine (HR.out _).mono ?_
    rintro e w4 ⟨rfl, hB⟩
    have B2 := Lib.hid (B1.out.trans (hB.mono B1.out.size))
    have hF : FBox w4 (w.heap.size + 1) 0 0 := HF.out.below hB (by omega)
    have ht := fbox_set hF p q
    obtain ⟨⟨f0, f1⟩, g0, g1⟩ := hF
    clear hB y0 y1 y2
    go_wp2_with fail
    refine bodyPost_ret (v := .tuple #[.agg #[.int .i64 p, .int .i64 q], .int .i64 0]) (by simp [results, go_sem, ht.1, ht.2, Try.f19]) rfl ?_
    exact ⟨rfl, (B2.out.setCell (Nat.le_succ _) _).setCell (Nat.le_succ _) _⟩
end Go.Proofs.Ytpkjogenkdckpaa
