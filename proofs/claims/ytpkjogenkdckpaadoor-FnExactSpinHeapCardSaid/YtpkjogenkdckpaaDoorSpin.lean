/-
  No statement is proved here: a heap that is spun, as the program and as the document's own text tell it; conditions: the numbers of the heap are int32s, the errors lie where the text lays them.
-/
import Derived.Test.YtpkjogenkdckpaaDoorHeap1
import Derived.Test.YtpkjogenkdckpaaDoorDown
import Derived.Test.YtpkjogenkdckpaaDoorSummed
import Derived.Test.YtpkjogenkdckpaaDoorPlies
namespace Go.Proofs.YtpkjogenkdckpaaDoor
open Go.ChangeShapes Go.WideShapes Go.ChangeAt Go.RowKit

/-- What SpinHeap answers. -/
def spinF (z : Nat → Int) (n r : Int) : Yn × Int :=
  if okH z = true then (if inB n 1 100 = true then (if inB r (-100) 100 = true then (if okR (sumTo z 8 * n) (sumTo z 8 * n * r) (sumTo z 8) = true then ((sumTo z 8 * n, sumTo z 8 * n * r, sumTo z 8), 0) else ((0, 0, 0), 3)) else ((0, 0, 0), 2)) else ((0, 0, 0), 2)) else ((0, 0, 0), 1)
theorem spinF_1 {z : Nat → Int} {n r : Int} (h : okH z = false) : spinF z n r = ((0, 0, 0), 1) := by unfold spinF; rw [h]; rfl
theorem spinF_2 {z : Nat → Int} {n r : Int} (h : okH z = true) (h2 : inB n 1 100 = false) : spinF z n r = ((0, 0, 0), 2) := by unfold spinF; rw [h, h2]; rfl
theorem spinF_2b {z : Nat → Int} {n r : Int} (h : okH z = true) (h2 : inB n 1 100 = true) (h3 : inB r (-100) 100 = false) : spinF z n r = ((0, 0, 0), 2) := by unfold spinF; rw [h, h2, h3]; rfl
theorem spinF_3 {z : Nat → Int} {n r : Int} (h : okH z = true) (h2 : inB n 1 100 = true) (h3 : inB r (-100) 100 = true) (h4 : okR (sumTo z 8 * n) (sumTo z 8 * n * r) (sumTo z 8) = false) : spinF z n r = ((0, 0, 0), 3) := by unfold spinF; rw [h, h2, h3, h4]; rfl
theorem spinF_0 {z : Nat → Int} {n r : Int} (h : okH z = true) (h2 : inB n 1 100 = true) (h3 : inB r (-100) 100 = true) (h4 : okR (sumTo z 8 * n) (sumTo z 8 * n * r) (sumTo z 8) = true) : spinF z n r = ((sumTo z 8 * n, sumTo z 8 * n * r, sumTo z 8), 0) := by unfold spinF; rw [h, h2, h3, h4]; rfl
theorem sumTo_ok {z : Nat → Int} (h : okH z = true) : 0 ≤ sumTo z 8 ∧ sumTo z 8 ≤ 8000 := by
  have hh := okH_of h
  have h0 := hh 0 (by omega)
  have h1 := hh 1 (by omega)
  have h2 := hh 2 (by omega)
  have h3 := hh 3 (by omega)
  have h4 := hh 4 (by omega)
  have h5 := hh 5 (by omega)
  have h6 := hh 6 (by omega)
  have h7 := hh 7 (by omega)
  simp only [sumTo]
  omega
/-- The products are small. -/
theorem spin_bd {g n r : Int} (hg : 0 ≤ g ∧ g ≤ 8000) (h1 : inB n 1 100 = true) (h2 : inB r (-100) 100 = true) : (0 ≤ g * n ∧ g * n ≤ 800000) ∧ (-80000000 ≤ g * n * r ∧ g * n * r ≤ 80000000) := by
  obtain ⟨a1, a2⟩ := inB_of h1
  obtain ⟨b1, b2⟩ := inB_of h2
  have x1 : g * n ≤ 8000 * n := Int.mul_le_mul_of_nonneg_right hg.2 (by omega)
  have x2 : 0 ≤ g * n := Int.mul_nonneg hg.1 (by omega)
  generalize g * n = s at *
  have x3 : s * r ≤ s * 100 := Int.mul_le_mul_of_nonneg_left b2 x2
  have x4 : s * (-100) ≤ s * r := Int.mul_le_mul_of_nonneg_left b1 x2
  omega

set_option maxHeartbeats 1000000 in
theorem l01Asked_any (z : Nat → Int) (b off : Nat) (fine : Bool) (w : World) (hH : HeapAt w b off z) (hz : bd32 z) :
    Calls Tryd.prog 39 #[.pointer (some ⟨b, off, none⟩), .bool fine] w fun e w' => e = .returned (.int .i64 (asked2 (okH z) fine 1 2)) ∧ w = w' := by
  have H1 := Lib.hid (l01Heap_any z b off w hH hz)
  cases hok : okH z with
  | false =>
    rw [hok] at H1
    clear hok hH hz
    go_enter Tryd.func39, Tryd.ntmps39
    go_wp2_with fail
    refine H1.out.mono ?_
    rintro e w' ⟨rfl, rfl⟩
    go_wp2
    go_ret
    exact ⟨rfl, rfl⟩
  | true =>
    rw [hok] at H1
    clear hok hH hz
    cases fine with
    | false =>
      go_enter Tryd.func39, Tryd.ntmps39
      go_wp2_with fail
      refine H1.out.mono ?_
      rintro e w' ⟨rfl, rfl⟩
      go_wp2
      go_ret
      exact ⟨rfl, rfl⟩
    | true =>
      go_enter Tryd.func39, Tryd.ntmps39
      go_wp2_with fail
      refine H1.out.mono ?_
      rintro e w' ⟨rfl, rfl⟩
      go_wp2
      go_ret
      exact ⟨rfl, rfl⟩

set_option maxRecDepth 100000 in
set_option maxHeartbeats 20000000 in
theorem specSpin_any (x0 x1 x2 x3 x4 x5 x6 x7 n r : Int) (w : World) (hb : bd32 (z8 x0 x1 x2 x3 x4 x5 x6 x7)) :
    Calls Tryd.prog 11 #[.agg #[.int .i32 x0, .int .i32 x1, .int .i32 x2, .int .i32 x3, .int .i32 x4, .int .i32 x5, .int .i32 x6, .int .i32 x7], .int .i64 n, .int .i64 r] w fun e w' => e = .returned (.tuple #[.agg #[.int .i16 (spinF (z8 x0 x1 x2 x3 x4 x5 x6 x7) n r).1.1, .int .i16 (spinF (z8 x0 x1 x2 x3 x4 x5 x6 x7) n r).1.2.1, .int .i16 (spinF (z8 x0 x1 x2 x3 x4 x5 x6 x7) n r).1.2.2], .int .i64 (spinF (z8 x0 x1 x2 x3 x4 x5 x6 x7) n r).2]) ∧ Below w.heap.size w w' := by
  have HI1 := Lib.hid fun wx => in_any n 1 100 wx
  have HI2 := Lib.hid fun wx => in_any r (-100) 100 wx
  have HT := Lib.hid (show HeapAt ((w.alloc (.cells #[.int .i32 x0, .int .i32 x1, .int .i32 x2, .int .i32 x3, .int .i32 x4, .int .i32 x5, .int .i32 x6, .int .i32 x7] 28)).alloc (.cells #[.int .i16 0, .int .i16 0, .int .i16 0] 25)) w.heap.size 0 (z8 x0 x1 x2 x3 x4 x5 x6 x7) from (heapAt_alloc w x0 x1 x2 x3 x4 x5 x6 x7 28).below ((Below.refl _ _).alloc (Nat.le_refl _) _) (by simp))
  have HQ := Lib.hid (show YFree ((w.alloc (.cells #[.int .i32 x0, .int .i32 x1, .int .i32 x2, .int .i32 x3, .int .i32 x4, .int .i32 x5, .int .i32 x6, .int .i32 x7] 28)).alloc (.cells #[.int .i16 0, .int .i16 0, .int .i16 0] 25)) (w.heap.size + 1) 0 0 0 from ⟨⟨by simp [go_sem], by simp [go_sem], by simp [go_sem]⟩, by simp [go_sem], by simp [go_sem], by simp [go_sem]⟩)
  have HD := Lib.hid (show Below w.heap.size w ((w.alloc (.cells #[.int .i32 x0, .int .i32 x1, .int .i32 x2, .int .i32 x3, .int .i32 x4, .int .i32 x5, .int .i32 x6, .int .i32 x7] 28)).alloc (.cells #[.int .i16 0, .int .i16 0, .int .i16 0] 25)) from ((Below.refl w.heap.size w).alloc (Nat.le_refl _) _).alloc (by simp only [World.size_alloc]; omega) _)
  have HZ := Lib.hid (show w.heap.size + 1 < (((w.alloc (.cells #[.int .i32 x0, .int .i32 x1, .int .i32 x2, .int .i32 x3, .int .i32 x4, .int .i32 x5, .int .i32 x6, .int .i32 x7] 28)).alloc (.cells #[.int .i16 0, .int .i16 0, .int .i16 0] 25))).heap.size by simp)
  have HA := Lib.hid fun fine => l01Asked_any (z8 x0 x1 x2 x3 x4 x5 x6 x7) w.heap.size 0 fine ((w.alloc (.cells #[.int .i32 x0, .int .i32 x1, .int .i32 x2, .int .i32 x3, .int .i32 x4, .int .i32 x5, .int .i32 x6, .int .i32 x7] 28)).alloc (.cells #[.int .i16 0, .int .i16 0, .int .i16 0] 25)) HT.out hb
  have HG := Lib.hid (l01Grams_any (z8 x0 x1 x2 x3 x4 x5 x6 x7) w.heap.size 0 ((w.alloc (.cells #[.int .i32 x0, .int .i32 x1, .int .i32 x2, .int .i32 x3, .int .i32 x4, .int .i32 x5, .int .i32 x6, .int .i32 x7] 28)).alloc (.cells #[.int .i16 0, .int .i16 0, .int .i16 0] 25)) HT.out hb)
  cases hok : okH (z8 x0 x1 x2 x3 x4 x5 x6 x7) with
  | false =>
    have JO := Lib.hid (spinF_1 (n := n) (r := r) hok)
    generalize spinF (z8 x0 x1 x2 x3 x4 x5 x6 x7) n r = out at *
    rw [hok] at HA
    clear HT hb HG
    cases h1 : inB n 1 100 with
    | false =>
      rw [h1] at HI1
      go_enter Tryd.func11, Tryd.ntmps11
      go_wp2_with fail
      refine (HI1.out _).mono ?_
      rintro e w' ⟨rfl, rfl⟩
      have HAx := HA.out false
      rw [show asked2 false false 1 2 = 1 from rfl] at HAx
      have HAy := Lib.hid HAx
      clear HAx
      go_wp2_with fail
      refine HAy.out.mono ?_
      rintro e w' ⟨rfl, rfl⟩
      obtain ⟨⟨f0, f1, f2⟩, g0, g1, g2⟩ := HQ.out
      have D := HD.out
      go_wp2_with fail
      refine bodyPost_ret (v := .tuple #[.agg #[.int .i16 0, .int .i16 0, .int .i16 0], .int .i64 1]) (by simp [results, go_sem, f0, f1, f2, Tryd.f11]) rfl ?_
      refine ⟨?_, by first | exact D | exact ((D.setCell (by simp only; omega) _).setCell (by simp only; omega) _).setCell (by simp only; omega) _⟩
      rw [JO.out]
    | true =>
      rw [h1] at HI1
      cases h2 : inB r (-100) 100 with
      | false =>
        rw [h2] at HI2
        go_enter Tryd.func11, Tryd.ntmps11
        go_wp2_with fail
        refine (HI1.out _).mono ?_
        rintro e w' ⟨rfl, rfl⟩
        go_wp2_with fail
        refine (HI2.out _).mono ?_
        rintro e w' ⟨rfl, rfl⟩
        have HAx := HA.out false
        rw [show asked2 false false 1 2 = 1 from rfl] at HAx
        have HAy := Lib.hid HAx
        clear HAx
        go_wp2_with fail
        refine HAy.out.mono ?_
        rintro e w' ⟨rfl, rfl⟩
        obtain ⟨⟨f0, f1, f2⟩, g0, g1, g2⟩ := HQ.out
        have D := HD.out
        go_wp2_with fail
        refine bodyPost_ret (v := .tuple #[.agg #[.int .i16 0, .int .i16 0, .int .i16 0], .int .i64 1]) (by simp [results, go_sem, f0, f1, f2, Tryd.f11]) rfl ?_
        refine ⟨?_, by first | exact D | exact ((D.setCell (by simp only; omega) _).setCell (by simp only; omega) _).setCell (by simp only; omega) _⟩
        rw [JO.out]
      | true =>
        rw [h2] at HI2
        go_enter Tryd.func11, Tryd.ntmps11
        go_wp2_with fail
        refine (HI1.out _).mono ?_
        rintro e w' ⟨rfl, rfl⟩
        go_wp2_with fail
        refine (HI2.out _).mono ?_
        rintro e w' ⟨rfl, rfl⟩
        have HAx := HA.out true
        rw [show asked2 false true 1 2 = 1 from rfl] at HAx
        have HAy := Lib.hid HAx
        clear HAx
        go_wp2_with fail
        refine HAy.out.mono ?_
        rintro e w' ⟨rfl, rfl⟩
        obtain ⟨⟨f0, f1, f2⟩, g0, g1, g2⟩ := HQ.out
        have D := HD.out
        go_wp2_with fail
        refine bodyPost_ret (v := .tuple #[.agg #[.int .i16 0, .int .i16 0, .int .i16 0], .int .i64 1]) (by simp [results, go_sem, f0, f1, f2, Tryd.f11]) rfl ?_
        refine ⟨?_, by first | exact D | exact ((D.setCell (by simp only; omega) _).setCell (by simp only; omega) _).setCell (by simp only; omega) _⟩
        rw [JO.out]
  | true =>
    cases h1 : inB n 1 100 with
    | false =>
      have JO := Lib.hid (spinF_2 (r := r) hok h1)
      generalize spinF (z8 x0 x1 x2 x3 x4 x5 x6 x7) n r = out at *
      rw [hok] at HA
      rw [h1] at HI1
      clear HT hb HG
      go_enter Tryd.func11, Tryd.ntmps11
      go_wp2_with fail
      refine (HI1.out _).mono ?_
      rintro e w' ⟨rfl, rfl⟩
      have HAx := HA.out false
      rw [show asked2 true false 1 2 = 2 from rfl] at HAx
      have HAy := Lib.hid HAx
      clear HAx
      go_wp2_with fail
      refine HAy.out.mono ?_
      rintro e w' ⟨rfl, rfl⟩
      obtain ⟨⟨f0, f1, f2⟩, g0, g1, g2⟩ := HQ.out
      have D := HD.out
      go_wp2_with fail
      refine bodyPost_ret (v := .tuple #[.agg #[.int .i16 0, .int .i16 0, .int .i16 0], .int .i64 2]) (by simp [results, go_sem, f0, f1, f2, Tryd.f11]) rfl ?_
      refine ⟨?_, by first | exact D | exact ((D.setCell (by simp only; omega) _).setCell (by simp only; omega) _).setCell (by simp only; omega) _⟩
      rw [JO.out]
    | true =>
      cases h2 : inB r (-100) 100 with
      | false =>
        have JO := Lib.hid (spinF_2b hok h1 h2)
        generalize spinF (z8 x0 x1 x2 x3 x4 x5 x6 x7) n r = out at *
        rw [hok] at HA
        rw [h1] at HI1
        rw [h2] at HI2
        clear HT hb HG
        go_enter Tryd.func11, Tryd.ntmps11
        go_wp2_with fail
        refine (HI1.out _).mono ?_
        rintro e w' ⟨rfl, rfl⟩
        go_wp2_with fail
        refine (HI2.out _).mono ?_
        rintro e w' ⟨rfl, rfl⟩
        have HAx := HA.out false
        rw [show asked2 true false 1 2 = 2 from rfl] at HAx
        have HAy := Lib.hid HAx
        clear HAx
        go_wp2_with fail
        refine HAy.out.mono ?_
        rintro e w' ⟨rfl, rfl⟩
        obtain ⟨⟨f0, f1, f2⟩, g0, g1, g2⟩ := HQ.out
        have D := HD.out
        go_wp2_with fail
        refine bodyPost_ret (v := .tuple #[.agg #[.int .i16 0, .int .i16 0, .int .i16 0], .int .i64 2]) (by simp [results, go_sem, f0, f1, f2, Tryd.f11]) rfl ?_
        refine ⟨?_, by first | exact D | exact ((D.setCell (by simp only; omega) _).setCell (by simp only; omega) _).setCell (by simp only; omega) _⟩
        rw [JO.out]
      | true =>
        have J3 := Lib.hid (spinF_3 hok h1 h2)
        have J0 := Lib.hid (spinF_0 hok h1 h2)
        generalize spinF (z8 x0 x1 x2 x3 x4 x5 x6 x7) n r = out at *
        obtain ⟨⟨m1, m2⟩, m3, m4⟩ := spin_bd (sumTo_ok hok) h1 h2
        rw [hok] at HA
        rw [h1] at HI1
        rw [h2] at HI2
        generalize sumTo (z8 x0 x1 x2 x3 x4 x5 x6 x7) 8 = G at *
        have u1 : ∀ [Inhabited Nat], wrap64 (G * n) = G * n := by intro _; exact (IntWalk.wrap64_in _ (by omega)).trans (by omega)
        have u2 : ∀ [Inhabited Nat], IntKind.i64.wrap (G * n) = G * n := by intro _; exact (IntWalk.i64_in _ (by omega)).trans (by omega)
        have u3 : ∀ [Inhabited Nat], wrap64 (G * n * r) = G * n * r := by intro _; exact (IntWalk.wrap64_in _ (by omega)).trans (by omega)
        have u4 : ∀ [Inhabited Nat], IntKind.i64.wrap (G * n * r) = G * n * r := by intro _; exact (IntWalk.i64_in _ (by omega)).trans (by omega)
        have HM := Lib.hid fun wx => l03Make_any (G * n) (G * n * r) G wx
        clear HT hb hok h1 h2 m1 m2 m3 m4
        cases hk : okR (G * n) (G * n * r) G with
        | false =>
          have JO := Lib.hid (J3.out hk)
          rw [mkY_no hk, hk] at HM
          clear J3 J0 hk
          go_enter Tryd.func11, Tryd.ntmps11
          go_wp2_with fail
          refine (HI1.out _).mono ?_
          rintro e w' ⟨rfl, rfl⟩
          go_wp2_with fail
          refine (HI2.out _).mono ?_
          rintro e w' ⟨rfl, rfl⟩
          have HAx := HA.out true
          rw [show asked2 true true 1 2 = 0 from rfl] at HAx
          have HAy := Lib.hid HAx
          clear HAx
          go_wp2_with fail
          refine HAy.out.mono ?_
          rintro e w' ⟨rfl, rfl⟩
          go_wp2_with fail
          refine HG.out.mono ?_
          rintro e w' ⟨rfl, rfl⟩
          go_wp2_with fail
          refine (HM.out _).mono ?_
          rintro e w2 ⟨rfl, hB⟩
          have R2 := Lib.hid (HQ.out.below hB HZ.out)
          have B2 := Lib.hid (HD.out.trans (hB.mono HD.out.size))
          have Z2 := Lib.hid (Nat.lt_of_lt_of_le HZ.out hB.size)
          clear hB HQ HD HZ HA HG HI1 HI2 HM u1 u2 u3 u4
          obtain ⟨⟨f0, f1, f2⟩, g0, g1, g2⟩ := R2.out
          have z2 := Z2.out
          go_wp2_with fail
          refine bodyPost_ret (v := .tuple #[.agg #[.int .i16 0, .int .i16 0, .int .i16 0], .int .i64 3]) (by simp [results, go_sem, f0, f1, f2, z2, Tryd.f11]) rfl ?_
          refine ⟨?_, (((B2.out.setCell (by simp only; omega) _).setCell (by simp only; omega) _).setCell (by simp only; omega) _).alloc (by simp only [World.size_setCell]; exact B2.out.size) _⟩
          rw [JO.out]
        | true =>
          have JO := Lib.hid (J0.out hk)
          rw [mkY_yes hk, hk] at HM
          clear J3 J0 hk
          go_enter Tryd.func11, Tryd.ntmps11
          go_wp2_with fail
          refine (HI1.out _).mono ?_
          rintro e w' ⟨rfl, rfl⟩
          go_wp2_with fail
          refine (HI2.out _).mono ?_
          rintro e w' ⟨rfl, rfl⟩
          have HAx := HA.out true
          rw [show asked2 true true 1 2 = 0 from rfl] at HAx
          have HAy := Lib.hid HAx
          clear HAx
          go_wp2_with fail
          refine HAy.out.mono ?_
          rintro e w' ⟨rfl, rfl⟩
          go_wp2_with fail
          refine HG.out.mono ?_
          rintro e w' ⟨rfl, rfl⟩
          go_wp2_with fail
          refine (HM.out _).mono ?_
          rintro e w2 ⟨rfl, hB⟩
          have R2 := Lib.hid (HQ.out.below hB HZ.out)
          have B2 := Lib.hid (HD.out.trans (hB.mono HD.out.size))
          have Z2 := Lib.hid (Nat.lt_of_lt_of_le HZ.out hB.size)
          clear hB HQ HD HZ HA HG HI1 HI2 HM u1 u2 u3 u4
          obtain ⟨⟨f0, f1, f2⟩, g0, g1, g2⟩ := R2.out
          have z2 := Z2.out
          go_wp2_with fail
          refine bodyPost_ret (v := .tuple #[.agg #[.int .i16 (G * n), .int .i16 (G * n * r), .int .i16 G], .int .i64 0]) (by simp [results, go_sem, f0, f1, f2, z2, Tryd.f11]) rfl ?_
          refine ⟨?_, (((B2.out.setCell (by simp only; omega) _).setCell (by simp only; omega) _).setCell (by simp only; omega) _).alloc (by simp only [World.size_setCell]; exact B2.out.size) _⟩
          rw [JO.out]

set_option linter.unusedSimpArgs false in
set_option maxRecDepth 100000 in
set_option maxHeartbeats 20000000 in
theorem implSpin_any (p : Nat → Addr) (x0 x1 x2 x3 x4 x5 x6 x7 n r : Int) (w : World) (hs : Sent w p) (hb : bd32 (z8 x0 x1 x2 x3 x4 x5 x6 x7)) :
    Calls Tryd.prog 13 #[.agg #[.int .i32 x0, .int .i32 x1, .int .i32 x2, .int .i32 x3, .int .i32 x4, .int .i32 x5, .int .i32 x6, .int .i32 x7], .int .i64 n, .int .i64 r] w fun e w' => e = .returned (.tuple #[.agg #[.int .i16 (spinF (z8 x0 x1 x2 x3 x4 x5 x6 x7) n r).1.1, .int .i16 (spinF (z8 x0 x1 x2 x3 x4 x5 x6 x7) n r).1.2.1, .int .i16 (spinF (z8 x0 x1 x2 x3 x4 x5 x6 x7) n r).1.2.2], .int .i64 (spinF (z8 x0 x1 x2 x3 x4 x5 x6 x7) n r).2]) ∧ Below w.heap.size w w' := by
  have HS := Lib.hid hs
  have q1 := neqNil_err
  have q2 := neqNil_nil
  have HT := Lib.hid (show HeapAt ((w.alloc (.cells #[.int .i32 x0, .int .i32 x1, .int .i32 x2, .int .i32 x3, .int .i32 x4, .int .i32 x5, .int .i32 x6, .int .i32 x7] 28)).alloc (.cells #[.int .i16 0, .int .i16 0, .int .i16 0] 25)) w.heap.size 0 (z8 x0 x1 x2 x3 x4 x5 x6 x7) from (heapAt_alloc w x0 x1 x2 x3 x4 x5 x6 x7 28).below ((Below.refl _ _).alloc (Nat.le_refl _) _) (by simp))
  have HQ := Lib.hid (show YFree ((w.alloc (.cells #[.int .i32 x0, .int .i32 x1, .int .i32 x2, .int .i32 x3, .int .i32 x4, .int .i32 x5, .int .i32 x6, .int .i32 x7] 28)).alloc (.cells #[.int .i16 0, .int .i16 0, .int .i16 0] 25)) (w.heap.size + 1) 0 0 0 from ⟨⟨by simp [go_sem], by simp [go_sem], by simp [go_sem]⟩, by simp [go_sem], by simp [go_sem], by simp [go_sem]⟩)
  have HD := Lib.hid (show Below w.heap.size w ((w.alloc (.cells #[.int .i32 x0, .int .i32 x1, .int .i32 x2, .int .i32 x3, .int .i32 x4, .int .i32 x5, .int .i32 x6, .int .i32 x7] 28)).alloc (.cells #[.int .i16 0, .int .i16 0, .int .i16 0] 25)) from ((Below.refl w.heap.size w).alloc (Nat.le_refl _) _).alloc (by simp only [World.size_alloc]; omega) _)
  have HZ := Lib.hid (show w.heap.size + 1 < (((w.alloc (.cells #[.int .i32 x0, .int .i32 x1, .int .i32 x2, .int .i32 x3, .int .i32 x4, .int .i32 x5, .int .i32 x6, .int .i32 x7] 28)).alloc (.cells #[.int .i16 0, .int .i16 0, .int .i16 0] 25))).heap.size by simp)
  have HV := Lib.hid fun wx => validHeap_any x0 x1 x2 x3 x4 x5 x6 x7 wx
  have HC2 := Lib.hid fun wx hx => codeOf_c (p := p) 2 (by omega) (by omega) wx hx
  have J1 := Lib.hid fun h => spinF_1 (n := n) (r := r) (z := (z8 x0 x1 x2 x3 x4 x5 x6 x7)) h
  have J2 := Lib.hid fun h => spinF_2 (n := n) (r := r) (z := (z8 x0 x1 x2 x3 x4 x5 x6 x7)) h
  have J2b := Lib.hid fun h => spinF_2b (n := n) (r := r) (z := (z8 x0 x1 x2 x3 x4 x5 x6 x7)) h
  have J3 := Lib.hid fun h => spinF_3 (n := n) (r := r) (z := (z8 x0 x1 x2 x3 x4 x5 x6 x7)) h
  have J0 := Lib.hid fun h => spinF_0 (n := n) (r := r) (z := (z8 x0 x1 x2 x3 x4 x5 x6 x7)) h
  have SB := Lib.hid fun h => sumTo_ok (z := (z8 x0 x1 x2 x3 x4 x5 x6 x7)) h
  have HB := Lib.hid hb
  have HG := Lib.hid fun wx hx => sumOf32_any (z8 x0 x1 x2 x3 x4 x5 x6 x7) w.heap.size 0 wx hx hb
  generalize spinF (z8 x0 x1 x2 x3 x4 x5 x6 x7) n r = out at *
  clear hs hb
  go_enter Tryd.func13, Tryd.ntmps13
  go_wp2_with fail
  refine (HV.out _).mono ?_
  rintro e w1 ⟨rfl, hB⟩
  have T1 := Lib.hid (HT.out.below hB (by have := HZ.out; omega))
  have R1 := Lib.hid (HQ.out.below hB HZ.out)
  have B1 := Lib.hid (HD.out.trans (hB.mono HD.out.size))
  have Z1 := Lib.hid (Nat.lt_of_lt_of_le HZ.out hB.size)
  clear hB HT HQ HD HZ HV
  cases hok : okH (z8 x0 x1 x2 x3 x4 x5 x6 x7) with
  | false =>
    have JO := Lib.hid (J1.out hok)
    obtain ⟨⟨f0, f1, f2⟩, g0, g1, g2⟩ := R1.out
    have D := B1.out
    have zz := Z1.out
    go_wp2_with fail
    refine bodyPost_ret (v := .tuple #[.agg #[.int .i16 0, .int .i16 0, .int .i16 0], .int .i64 1]) (by simp [results, go_sem, f0, f1, f2, zz, Tryd.f13]) rfl ?_
    refine ⟨?_, by first | exact ((D.setCell (by simp only; omega) _).setCell (by simp only; omega) _).setCell (by simp only; omega) _ | exact (((D.setCell (by simp only; omega) _).setCell (by simp only; omega) _).setCell (by simp only; omega) _).alloc (by simp only [World.size_setCell]; exact D.size) _⟩
    rw [JO.out]
  | true =>
    go_wp2_with fail
    have H2 := check2n_any p w1.heap.size 2 n 1 100 r (-100) 100 (w1.alloc (.cells #[.iface 71 (.agg #[.int .i64 n, .int .i64 1, .int .i64 100]), .iface 71 (.agg #[.int .i64 r, .int .i64 (-100), .int .i64 100])] 101)) ((HS.out.below B1.out).below ((Below.refl _ _).alloc (Nat.le_refl _) _)) (by simp [go_sem]) (by simp [go_sem])
    refine Calls.mono H2 ?_
    clear H2
    rintro e w2 ⟨rfl, hB⟩
    have hL : Below w1.heap.size w1 w2 := ((Below.refl _ _).alloc (Nat.le_refl _) _).trans (hB.mono (by simp only [World.size_alloc]; omega))
    have T2 := Lib.hid (T1.out.below hL (by have := Z1.out; omega))
    have R2 := Lib.hid (R1.out.below hL (by have := Z1.out; omega))
    have B2 := Lib.hid (B1.out.trans (hL.mono B1.out.size))
    have Z2 := Lib.hid (Nat.lt_of_lt_of_le Z1.out hL.size)
    clear hB hL T1 R1 B1 Z1
    cases h1 : inB n 1 100 with
    | false =>
      have JO := Lib.hid (J2.out hok h1)
      have e : asked2 false (inB r (-100) 100) 2 2 = 2 := rfl
      rw [e, errOf_not p (by decide)]
      clear e
      go_wp2_with fail
      refine (HC2.out _ (HS.out.below B2.out)).mono ?_
      rintro e w' ⟨rfl, rfl⟩
      obtain ⟨⟨f0, f1, f2⟩, g0, g1, g2⟩ := R2.out
      have D := B2.out
      have zz := Z2.out
      go_wp2_with fail
      refine bodyPost_ret (v := .tuple #[.agg #[.int .i16 0, .int .i16 0, .int .i16 0], .int .i64 2]) (by simp [results, go_sem, f0, f1, f2, zz, Tryd.f13]) rfl ?_
      refine ⟨?_, by first | exact ((D.setCell (by simp only; omega) _).setCell (by simp only; omega) _).setCell (by simp only; omega) _ | exact (((D.setCell (by simp only; omega) _).setCell (by simp only; omega) _).setCell (by simp only; omega) _).alloc (by simp only [World.size_setCell]; exact D.size) _⟩
      rw [JO.out]
    | true =>
      cases h2 : inB r (-100) 100 with
      | false =>
        have JO := Lib.hid (J2b.out hok h1 h2)
        have e : asked2 true false 2 2 = 2 := rfl
        rw [e, errOf_not p (by decide)]
        clear e
        go_wp2_with fail
        refine (HC2.out _ (HS.out.below B2.out)).mono ?_
        rintro e w' ⟨rfl, rfl⟩
        obtain ⟨⟨f0, f1, f2⟩, g0, g1, g2⟩ := R2.out
        have D := B2.out
        have zz := Z2.out
        go_wp2_with fail
        refine bodyPost_ret (v := .tuple #[.agg #[.int .i16 0, .int .i16 0, .int .i16 0], .int .i64 2]) (by simp [results, go_sem, f0, f1, f2, zz, Tryd.f13]) rfl ?_
        refine ⟨?_, by first | exact ((D.setCell (by simp only; omega) _).setCell (by simp only; omega) _).setCell (by simp only; omega) _ | exact (((D.setCell (by simp only; omega) _).setCell (by simp only; omega) _).setCell (by simp only; omega) _).alloc (by simp only [World.size_setCell]; exact D.size) _⟩
        rw [JO.out]
      | true =>
        have e : asked2 true true 2 2 = 0 := rfl
        rw [e, errOf_zero]
        clear e
        have K3 := Lib.hid (J3.out hok h1 h2)
        have K0 := Lib.hid (J0.out hok h1 h2)
        obtain ⟨⟨m1, m2⟩, m3, m4⟩ := spin_bd (SB.out hok) h1 h2
        clear J1 J2 J2b J3 J0 SB HC2
        generalize sumTo (z8 x0 x1 x2 x3 x4 x5 x6 x7) 8 = G at *
        have u1 : ∀ [Inhabited Nat], wrap64 (G * n) = G * n := by intro _; exact (IntWalk.wrap64_in _ (by omega)).trans (by omega)
        have u2 : ∀ [Inhabited Nat], IntKind.i64.wrap (G * n) = G * n := by intro _; exact (IntWalk.i64_in _ (by omega)).trans (by omega)
        have u3 : ∀ [Inhabited Nat], wrap64 (G * n * r) = G * n * r := by intro _; exact (IntWalk.wrap64_in _ (by omega)).trans (by omega)
        have u4 : ∀ [Inhabited Nat], IntKind.i64.wrap (G * n * r) = G * n * r := by intro _; exact (IntWalk.i64_in _ (by omega)).trans (by omega)
        have HA := Lib.hid fun wx => areRight_any (G * n) (G * n * r) G wx (by omega)
        clear m1 m2 m3 m4
        go_wp2_with fail
        refine (HG.out _ T2.out).mono ?_
        rintro e w' ⟨rfl, rfl⟩
        go_wp2_with fail
        refine (HA.out _).mono ?_
        rintro e w3 ⟨rfl, hB⟩
        have hL : Below w2.heap.size w2 w3 := ((Below.refl _ _).alloc (Nat.le_refl _) _).trans (hB.mono (by simp only [World.size_alloc]; omega))
        have M3 := Lib.hid (show MFree w3 w2.heap.size (G * n) (G * n * r) G from MFree.below (mfree_new w2 _ _ _) hB (by simp))
        have T3 := Lib.hid (T2.out.below hL (by have := Z2.out; omega))
        have R3 := Lib.hid (R2.out.below hL (by have := Z2.out; omega))
        have B3 := Lib.hid (B2.out.trans (hL.mono B2.out.size))
        have Z3 := Lib.hid (Nat.lt_of_lt_of_le Z2.out hL.size)
        clear hB hL T2 R2 B2 Z2
        cases hk : okR (G * n) (G * n * r) G with
        | false =>
          have JO := Lib.hid (K3.out hk)
          obtain ⟨⟨f0, f1, f2⟩, g0, g1, g2⟩ := R3.out
          have D := B3.out
          have zz := Z3.out
          go_wp2_with fail
          refine bodyPost_ret (v := .tuple #[.agg #[.int .i16 0, .int .i16 0, .int .i16 0], .int .i64 3]) (by simp [results, go_sem, f0, f1, f2, zz, Tryd.f13]) rfl ?_
          refine ⟨?_, by first | exact ((D.setCell (by simp only; omega) _).setCell (by simp only; omega) _).setCell (by simp only; omega) _ | exact (((D.setCell (by simp only; omega) _).setCell (by simp only; omega) _).setCell (by simp only; omega) _).alloc (by simp only [World.size_setCell]; exact D.size) _⟩
          rw [JO.out]
        | true =>
          have JO := Lib.hid (K0.out hk)
          have HK := Lib.hid fun wx => mkYarn_any (G * n) (G * n * r) G wx hk
          obtain ⟨⟨m0, m1, m2⟩, _⟩ := M3.out
          go_wp2_with fail
          refine (HK.out _).mono ?_
          rintro e w4 ⟨rfl, hB⟩
          have hL := hB
          have T4 := Lib.hid (T3.out.below hL (by have := Z3.out; omega))
          have R4 := Lib.hid (R3.out.below hL (by have := Z3.out; omega))
          have B4 := Lib.hid (B3.out.trans (hL.mono B3.out.size))
          have Z4 := Lib.hid (Nat.lt_of_lt_of_le Z3.out hL.size)
          clear hB hL T3 R3 B3 Z3
          obtain ⟨⟨f0, f1, f2⟩, g0, g1, g2⟩ := R4.out
          have D := B4.out
          have zz := Z4.out
          go_wp2_with fail
          refine bodyPost_ret (v := .tuple #[.agg #[.int .i16 (G * n), .int .i16 (G * n * r), .int .i16 G], .int .i64 0]) (by simp [results, go_sem, f0, f1, f2, zz, Tryd.f13]) rfl ?_
          refine ⟨?_, by first | exact ((D.setCell (by simp only; omega) _).setCell (by simp only; omega) _).setCell (by simp only; omega) _ | exact (((D.setCell (by simp only; omega) _).setCell (by simp only; omega) _).setCell (by simp only; omega) _).alloc (by simp only [World.size_setCell]; exact D.size) _⟩
          rw [JO.out]
end Go.Proofs.YtpkjogenkdckpaaDoor
