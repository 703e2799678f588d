/-
  Proved here: the law on ValidFleece answers true, for all arguments; no condition.
-/
import Derived.Test.YthokpdhknohpoaaHeapX
namespace Go.Proofs.Ythokpdhknohpoaa
open Go.RowKit

theorem openFleece {w : World} {r : Reach} {base : Nat} {v : Value} (h : Value.okWide Try.prog w r base 40 v) : ∃ fi x0 x1 x2 x3 x4 x5 x6 x7 : Int, v = .agg #[.int .i8 fi, .int .i32 x0, .int .i32 x1, .int .i32 x2, .int .i32 x3, .int .i32 x4, .int .i32 x5, .int .i32 x6, .int .i32 x7] ∧ (-128 ≤ fi ∧ fi ≤ 127) ∧ in32 x0 ∧ in32 x1 ∧ in32 x2 ∧ in32 x3 ∧ in32 x4 ∧ in32 x5 ∧ in32 x6 ∧ in32 x7 := by
  obtain ⟨vs, rfl, hc⟩ := open_cells h (by kernel_rfl) (ts := [38, 21, 21, 21, 21, 21, 21, 21, 21]) (ks := [.i8, .i32, .i32, .i32, .i32, .i32, .i32, .i32, .i32]) (by kernel_rfl) (by kernel_rfl) (by kernel_rfl)
  obtain ⟨fi, _, rfl, hf, x0, _, rfl, h0, x1, _, rfl, h1, x2, _, rfl, h2, x3, _, rfl, h3, x4, _, rfl, h4, x5, _, rfl, h5, x6, _, rfl, h6, x7, _, rfl, h7, rfl⟩ := hc
  exact ⟨fi, x0, x1, x2, x3, x4, x5, x6, x7, rfl, hf, h0, h1, h2, h3, h4, h5, h6, h7⟩

/-- Is a fleece in order? -/
def okF (fi : Int) (z : Nat → Int) : Bool := inB fi 0 9 && okH z

set_option maxHeartbeats 400000 in
theorem l01Fleece_any (fi : Int) (z : Nat → Int) (b off : Nat) (w : World) (hf : w.cell? ⟨b, off, none⟩ = some (.int .i8 fi)) (hH : HeapAt w b (off + 1) z) (hz : bd32 z) (h8 : -128 ≤ fi ∧ fi ≤ 127) :
    Calls Try.prog 51 #[.pointer (some ⟨b, off, none⟩)] w fun e w' => e = .returned (.bool (okF fi z)) ∧ w = w' := by
  have hc := Lib.hid (l01Heap_any z b (off + 1) w hH hz)
  clear hH hz
  cases hi : inB fi 0 9 with
  | false =>
    have ho : okF fi z = false := by simp [okF, hi]
    rw [ho]
    clear ho hc
    go_enter Try.func51, Try.ntmps51
    go_wp2_with fail
    refine (in_any _ _ _ _).mono ?_
    rintro e w' ⟨rfl, rfl⟩
    rw [hi]
    go_wp2
    go_ret
    exact ⟨rfl, rfl⟩
  | true =>
    have ho : okF fi z = okH z := by simp [okF, hi]
    rw [ho]
    clear ho
    generalize okH z = ok at *
    go_enter Try.func51, Try.ntmps51
    go_wp2_with fail
    refine (in_any _ _ _ _).mono ?_
    rintro e w' ⟨rfl, rfl⟩
    rw [hi]
    go_wp2_with fail
    refine hc.out.mono ?_
    rintro e w' ⟨rfl, rfl⟩
    go_wp2
    go_ret
    exact ⟨rfl, rfl⟩

theorem fleeceAt_alloc (w : World) (fi x0 x1 x2 x3 x4 x5 x6 x7 : Int) (t : TypeId) : HeapAt (w.alloc (.cells #[.int .i8 fi, .int .i32 x0, .int .i32 x1, .int .i32 x2, .int .i32 x3, .int .i32 x4, .int .i32 x5, .int .i32 x6, .int .i32 x7] t)) w.heap.size 1 (z8 x0 x1 x2 x3 x4 x5 x6 x7) := by
  intro k hk
  match k, hk with
  | 0, _ => simp [go_sem, z8]
  | 1, _ => simp [go_sem, z8]
  | 2, _ => simp [go_sem, z8]
  | 3, _ => simp [go_sem, z8]
  | 4, _ => simp [go_sem, z8]
  | 5, _ => simp [go_sem, z8]
  | 6, _ => simp [go_sem, z8]
  | 7, _ => simp [go_sem, z8]
  | k + 8, hk => omega

theorem specValidFleece_any (fi x0 x1 x2 x3 x4 x5 x6 x7 : Int) (h8 : -128 ≤ fi ∧ fi ≤ 127) (hb : bd32 (z8 x0 x1 x2 x3 x4 x5 x6 x7)) (w : World) :
    Calls Try.prog 23 #[.agg #[.int .i8 fi, .int .i32 x0, .int .i32 x1, .int .i32 x2, .int .i32 x3, .int .i32 x4, .int .i32 x5, .int .i32 x6, .int .i32 x7]] w fun e w' => e = .returned (.bool (okF fi (z8 x0 x1 x2 x3 x4 x5 x6 x7))) ∧ Below w.heap.size w w' := by
  have hc := Lib.hid (l01Fleece_any fi (z8 x0 x1 x2 x3 x4 x5 x6 x7) w.heap.size 0 (w.alloc (.cells #[.int .i8 fi, .int .i32 x0, .int .i32 x1, .int .i32 x2, .int .i32 x3, .int .i32 x4, .int .i32 x5, .int .i32 x6, .int .i32 x7] 43)) (by simp [go_sem]) (fleeceAt_alloc w fi x0 x1 x2 x3 x4 x5 x6 x7 _) hb h8)
  generalize okF fi (z8 x0 x1 x2 x3 x4 x5 x6 x7) = ok at *
  clear hb h8
  go_enter Try.func23, Try.ntmps23
  go_wp2_with fail
  refine hc.out.mono ?_
  rintro e w' ⟨rfl, rfl⟩
  go_wp2
  go_ret
  exact ⟨rfl, by go_grown⟩

set_option maxHeartbeats 400000 in
theorem implValidFleece_any (fi x0 x1 x2 x3 x4 x5 x6 x7 : Int) (w : World) :
    Calls Try.prog 25 #[.agg #[.int .i8 fi, .int .i32 x0, .int .i32 x1, .int .i32 x2, .int .i32 x3, .int .i32 x4, .int .i32 x5, .int .i32 x6, .int .i32 x7]] w fun e w' => e = .returned (.bool (okF fi (z8 x0 x1 x2 x3 x4 x5 x6 x7))) ∧ Below w.heap.size w w' := by
  by_cases h0 : 0 ≤ fi
  · by_cases h1 : fi ≤ 9
    · have ho : okF fi (z8 x0 x1 x2 x3 x4 x5 x6 x7) = okH (z8 x0 x1 x2 x3 x4 x5 x6 x7) := by unfold okF; rw [inB_mk ⟨h0, h1⟩]; simp
      rw [ho]
      clear ho
      have hc := Lib.hid fun wx => validHeap_any x0 x1 x2 x3 x4 x5 x6 x7 wx
      generalize okH (z8 x0 x1 x2 x3 x4 x5 x6 x7) = ok at *
      go_enter Try.func25, Try.ntmps25
      go_wp2_with fail
      refine (hc.out _).mono ?_
      rintro e w1 ⟨rfl, hB⟩
      have hB1 : Below w.heap.size w w1 := ((Below.refl _ _).alloc (Nat.le_refl _) _).trans (hB.mono (by simp))
      clear hB
      go_wp2
      go_ret
      exact ⟨rfl, hB1⟩
    · have ho : okF fi (z8 x0 x1 x2 x3 x4 x5 x6 x7) = false := by unfold okF; rw [inB_mkno (by omega)]; simp
      rw [ho]
      clear ho
      go_enter Try.func25, Try.ntmps25
      go_wp2
      go_ret
      exact ⟨rfl, by go_grown⟩
  · have ho : okF fi (z8 x0 x1 x2 x3 x4 x5 x6 x7) = false := by unfold okF; rw [inB_mkno (by omega)]; simp
    rw [ho]
    clear ho
    go_enter Try.func25, Try.ntmps25
    go_wp2
    go_ret
    exact ⟨rfl, by go_grown⟩

set_option maxHeartbeats 400000 in
theorem toFleece_any (fi x0 x1 x2 x3 x4 x5 x6 x7 : Int) (w : World) : Calls Try.prog 24 #[.agg #[.int .i8 fi, .int .i32 x0, .int .i32 x1, .int .i32 x2, .int .i32 x3, .int .i32 x4, .int .i32 x5, .int .i32 x6, .int .i32 x7]] w fun e w' => e = .returned (.agg #[.int .i8 fi, .int .i32 x0, .int .i32 x1, .int .i32 x2, .int .i32 x3, .int .i32 x4, .int .i32 x5, .int .i32 x6, .int .i32 x7]) ∧ Below w.heap.size w w' := by
  go_enter Try.func24, Try.ntmps24
  go_wp2_with fail
  refine (toHeap_exact x0 x1 x2 x3 x4 x5 x6 x7 _).mono ?_
  rintro e w1 ⟨rfl, rfl⟩
  go_wp2
  go_returns
  exact ⟨rfl, by go_grown⟩

set_option linter.unusedVariables false in
set_option maxHeartbeats 400000 in
theorem validFleece_walk {H : Type} {enc : TypeId × Value → H} (w : World) (base : Nat)
    (v0 : Value) (d0 : DataW H) (p0 : List MemPlace) (o0 : Value.okWide Try.prog w .any base 40 v0) (k0 : DataW.Trod enc Try.prog w 0 (fun _ => true) true 40 v0 d0 p0) :
    Calls Try.prog 6 #[v0] w fun e w' => e = .returned (.bool true) ∧ Below w.heap.size w w' := by
  obtain ⟨fi, x0, x1, x2, x3, x4, x5, x6, x7, rfl, h8, h0, h1, h2, h3, h4, h5, h6, h7⟩ := openFleece o0
  clear o0 k0
  have hb := bd32_z8 h0 h1 h2 h3 h4 h5 h6 h7
  clear h0 h1 h2 h3 h4 h5 h6 h7
  have c1 := Lib.hid fun wx => specValidFleece_any fi x0 x1 x2 x3 x4 x5 x6 x7 h8 hb wx
  have c2 := Lib.hid fun wx => implValidFleece_any fi x0 x1 x2 x3 x4 x5 x6 x7 wx
  clear hb h8
  generalize okF fi (z8 x0 x1 x2 x3 x4 x5 x6 x7) = ok at *
  have hne : (ok != ok) = false := by simp
  go_enter Try.func6, Try.ntmps6
  go_wp2_with fail
  refine (toFleece_any fi x0 x1 x2 x3 x4 x5 x6 x7 _).mono ?_
  rintro e w1 ⟨rfl, hB⟩
  have hz1 := hB.size
  simp only [World.size_alloc] at hz1
  have hB1 : Below w.heap.size w w1 := ((Below.refl _ _).alloc (Nat.le_refl _) _).trans (hB.mono (by simp))
  have e1 : Below (w.heap.size + 1) (w.alloc (.cells #[.int .i8 fi, .int .i32 x0, .int .i32 x1, .int .i32 x2, .int .i32 x3, .int .i32 x4, .int .i32 x5, .int .i32 x6, .int .i32 x7] 40)) w1 := hB.mono (by simp)
  clear hB
  go_wp2_with fail
  refine (c1.out _).mono ?_
  rintro e w2 ⟨rfl, hB⟩
  have hB2 : Below w.heap.size w w2 := hB1.trans (hB.mono hB1.size)
  have hB3 := e1.trans (hB.mono hz1)
  obtain ⟨hc0, hcz0⟩ := cellsKept hB3 (w.heap.size) (by omega)
  clear hB hB3 e1 hB1
  go_wp2_with fail
  refine (toFleece_any fi x0 x1 x2 x3 x4 x5 x6 x7 _).mono ?_
  rintro e w3 ⟨rfl, hB⟩
  have hB4 : Below w.heap.size w w3 := hB2.trans (hB.mono hB2.size)
  clear hB hc0 hcz0
  go_wp2_with fail
  refine (c2.out _).mono ?_
  rintro e w4 ⟨rfl, hB⟩
  have hB5 : Below w.heap.size w w4 := hB4.trans (hB.mono hB4.size)
  clear hB
  go_wp2
  go_ret
  exact ⟨rfl, hB5⟩
end Go.Proofs.Ythokpdhknohpoaa
