/-
  Proved here: the law on GramsOf answers true, for all arguments; no condition.
-/
import Derived.Test.YthokpdhknohpoaaHeap1
namespace Go.Proofs.Ythokpdhknohpoaa
open Go.RowKit

/-- What GramsOf returns. -/
def gramsF (z : Nat → Int) : Int × Int := if okH z = true then (sumTo z 8, 0) else (0, 1)

set_option maxHeartbeats 400000 in
theorem specGrams_any (x0 x1 x2 x3 x4 x5 x6 x7 a c : Int) (hb : bd32 (z8 x0 x1 x2 x3 x4 x5 x6 x7)) (hF : gramsF (z8 x0 x1 x2 x3 x4 x5 x6 x7) = (a, c)) (w : World) :
    Calls Try.prog 26 #[.agg #[.int .i32 x0, .int .i32 x1, .int .i32 x2, .int .i32 x3, .int .i32 x4, .int .i32 x5, .int .i32 x6, .int .i32 x7]] w fun e w' => e = .returned (.tuple #[.int .i64 a, .int .i64 c]) ∧ Below w.heap.size w w' := by
  have hat := heapAt_alloc w x0 x1 x2 x3 x4 x5 x6 x7 35
  have h1 := l01Heap_any (z8 x0 x1 x2 x3 x4 x5 x6 x7) w.heap.size 0 (w.alloc (.cells #[.int .i32 x0, .int .i32 x1, .int .i32 x2, .int .i32 x3, .int .i32 x4, .int .i32 x5, .int .i32 x6, .int .i32 x7] 35)) hat hb
  have h2 := l01Grams_any (z8 x0 x1 x2 x3 x4 x5 x6 x7) w.heap.size 0 (w.alloc (.cells #[.int .i32 x0, .int .i32 x1, .int .i32 x2, .int .i32 x3, .int .i32 x4, .int .i32 x5, .int .i32 x6, .int .i32 x7] 35)) hat hb
  have hF2 := hF
  unfold gramsF at hF2
  clear hF hat hb
  have H2 := Lib.hid h2
  clear h2
  cases hok : okH (z8 x0 x1 x2 x3 x4 x5 x6 x7) with
  | false =>
    rw [hok] at hF2 h1
    simp only [Bool.false_eq_true, if_false, Prod.mk.injEq] at hF2
    obtain ⟨rfl, rfl⟩ := hF2
    clear hok
    have H1 := Lib.hid h1
    clear h1
    go_enter Try.func26, Try.ntmps26
    go_wp2_with fail
    refine H1.out.mono ?_
    rintro e w' ⟨rfl, rfl⟩
    go_wp2
    go_ret2
    exact ⟨rfl, by go_grown⟩
  | true =>
    rw [hok] at hF2 h1
    simp only [if_true, Prod.mk.injEq] at hF2
    obtain ⟨hs, rfl⟩ := hF2
    rw [hs] at H2
    clear hok hs
    have H1 := Lib.hid h1
    clear h1
    go_enter Try.func26, Try.ntmps26
    go_wp2_with fail
    refine H1.out.mono ?_
    rintro e w' ⟨rfl, rfl⟩
    go_wp2_with fail
    refine H2.out.mono ?_
    rintro e w' ⟨rfl, rfl⟩
    go_wp2
    go_ret2
    exact ⟨rfl, by go_grown⟩

set_option maxHeartbeats 400000 in
theorem implGrams_any (x0 x1 x2 x3 x4 x5 x6 x7 a c : Int) (hb : bd32 (z8 x0 x1 x2 x3 x4 x5 x6 x7)) (hF : gramsF (z8 x0 x1 x2 x3 x4 x5 x6 x7) = (a, c)) (w : World) :
    Calls Try.prog 27 #[.agg #[.int .i32 x0, .int .i32 x1, .int .i32 x2, .int .i32 x3, .int .i32 x4, .int .i32 x5, .int .i32 x6, .int .i32 x7]] w fun e w' => e = .returned (.tuple #[.int .i64 a, .int .i64 c]) ∧ Below w.heap.size w w' := by
  have hat := heapAt_alloc w x0 x1 x2 x3 x4 x5 x6 x7 35
  have h1 := fun wx => validHeap_any x0 x1 x2 x3 x4 x5 x6 x7 wx
  have hF2 := hF
  unfold gramsF at hF2
  clear hF
  have HT := Lib.hid hat
  clear hat
  cases hok : okH (z8 x0 x1 x2 x3 x4 x5 x6 x7) with
  | false =>
    rw [hok] at hF2 h1
    simp only [Bool.false_eq_true, if_false, Prod.mk.injEq] at hF2
    obtain ⟨rfl, rfl⟩ := hF2
    clear hok HT
    have H1 := Lib.hid h1
    clear h1 hb
    go_enter Try.func27, Try.ntmps27
    go_wp2_with fail
    refine (H1.out _).mono ?_
    rintro e w' ⟨rfl, hB⟩
    have hB1 : Below w.heap.size w w' := ((Below.refl _ _).alloc (Nat.le_refl _) _).trans (hB.mono (by simp))
    clear hB
    go_wp2
    go_ret2
    exact ⟨rfl, hB1⟩
  | true =>
    rw [hok] at hF2 h1
    simp only [if_true, Prod.mk.injEq] at hF2
    obtain ⟨hs, rfl⟩ := hF2
    have H1 := Lib.hid h1
    have HS := Lib.hid hs
    have HZ := Lib.hid hb
    clear h1 hok hs hb
    go_enter Try.func27, Try.ntmps27
    go_wp2_with fail
    refine (H1.out _).mono ?_
    rintro e w1 ⟨rfl, hB⟩
    have hB1 : Below w.heap.size w w1 := ((Below.refl _ _).alloc (Nat.le_refl _) _).trans (hB.mono (by simp))
    have h2 := Lib.hid (sumOf32_any (z8 x0 x1 x2 x3 x4 x5 x6 x7) w.heap.size 0 w1 (HT.out.below hB (by simp)) HZ.out)
    rw [HS.out] at h2
    clear hB
    go_wp2_with fail
    refine h2.out.mono ?_
    rintro e w' ⟨rfl, rfl⟩
    go_wp2
    go_ret2
    exact ⟨rfl, hB1⟩

set_option linter.unusedVariables false in
theorem gramsOf_walk {H : Type} {enc : TypeId × Value → H} (w : World) (base : Nat)
    (v0 : Value) (d0 : DataW H) (p0 : List MemPlace) (o0 : Value.okWide Try.prog w .any base 33 v0) (k0 : DataW.Trod enc Try.prog w 0 (fun _ => true) true 33 v0 d0 p0) :
    Calls Try.prog 7 #[v0] w fun e w' => e = .returned (.bool true) ∧ Below w.heap.size w w' := by
  obtain ⟨x0, x1, x2, x3, x4, x5, x6, x7, rfl, h0, h1, h2, h3, h4, h5, h6, h7⟩ := open8 o0
  clear o0 k0
  have hb := bd32_z8 h0 h1 h2 h3 h4 h5 h6 h7
  clear h0 h1 h2 h3 h4 h5 h6 h7
  obtain ⟨a, c, hF⟩ : ∃ a c, gramsF (z8 x0 x1 x2 x3 x4 x5 x6 x7) = (a, c) := ⟨_, _, rfl⟩
  have c1 := Lib.hid fun wx => specGrams_any x0 x1 x2 x3 x4 x5 x6 x7 a c hb hF wx
  have c2 := Lib.hid fun wx => implGrams_any x0 x1 x2 x3 x4 x5 x6 x7 a c hb hF wx
  clear hb hF
  have hne1 : (a != a) = false := by simp
  have hne2 : (c != c) = false := by simp
  go_enter Try.func7, Try.ntmps7
  go_wp2_with fail
  refine (toHeap_any x0 x1 x2 x3 x4 x5 x6 x7 _).mono ?_
  rintro e w1 ⟨rfl, hB⟩
  have hB1 : Below w.heap.size w w1 := ((Below.refl _ _).alloc (Nat.le_refl _) _).trans (hB.mono (by simp))
  have hh1 := (heapAt_alloc w x0 x1 x2 x3 x4 x5 x6 x7 33).below hB (by simp)
  have hz1 := hB.size
  clear hB
  go_wp2_with fail
  refine (c1.out _).mono ?_
  rintro e w2 ⟨rfl, hB⟩
  have hB2 : Below w.heap.size w w2 := hB1.trans (hB.mono (by simp at hz1; omega))
  have hh2 := hh1.below hB hh1.lt
  have e0 := hh2 0 (by omega)
  have e1 := hh2 1 (by omega)
  have e2 := hh2 2 (by omega)
  have e3 := hh2 3 (by omega)
  have e4 := hh2 4 (by omega)
  have e5 := hh2 5 (by omega)
  have e6 := hh2 6 (by omega)
  have e7 := hh2 7 (by omega)
  simp only [z8, Nat.zero_add] at e0 e1 e2 e3 e4 e5 e6 e7
  clear hB hh2 hh1 hB1
  go_wp2_with fail
  refine (toHeap_any x0 x1 x2 x3 x4 x5 x6 x7 _).mono ?_
  rintro e w3 ⟨rfl, hB⟩
  have hB3 : Below w.heap.size w w3 := hB2.trans (hB.mono hB2.size)
  clear hB
  go_wp2_with fail
  refine (c2.out _).mono ?_
  rintro e w4 ⟨rfl, hB⟩
  have hB4 : Below w.heap.size w w4 := hB3.trans (hB.mono hB3.size)
  clear hB
  go_wp2
  go_ret
  exact ⟨rfl, hB4⟩
end Go.Proofs.Ythokpdhknohpoaa
