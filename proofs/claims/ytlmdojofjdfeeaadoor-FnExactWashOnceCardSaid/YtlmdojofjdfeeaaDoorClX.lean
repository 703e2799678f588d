/-
  No statement is proved here: by how much a cloth felts, and the cloth behind a wash, in the document's own text and in the program; condition: cloth and program are valid.
-/
import Derived.Test.YtlmdojofjdfeeaaDoorClF
namespace Go.Proofs.YtlmdojofjdfeeaaDoor
open Go.ChangeShapes Go.WideShapes Go.ChangeAt Go.RowKit

set_option maxRecDepth 100000 in
set_option maxHeartbeats 2000000 in
theorem l06Felts_any (b b2 o : Nat) (x y d f h t r c : Int) (w : World) (hf : 0 ≤ f ∧ f ≤ 9) (hh : 0 ≤ h ∧ h ≤ 9) (ht : 0 ≤ t ∧ t ≤ 9) (hr : 0 ≤ r ∧ r ≤ 9) (hb : CBox w b x y d f h) (hp : PBox w b2 o t r c) :
    Calls Tryd.prog 39 #[.pointer (some ⟨b, 0, none⟩), .pointer (some ⟨b2, o, none⟩)] w fun e w' => e = .returned (.int .i64 (fel f h t r)) ∧ ∃ n, w' = w.drewN n := by
  obtain ⟨f1, f2⟩ := hf
  obtain ⟨h1, h2⟩ := hh
  obtain ⟨t1, t2⟩ := ht
  obtain ⟨r1, r2⟩ := hr
  obtain ⟨c0, c1, c2, c3, c4⟩ := hb
  obtain ⟨p0, p1, p2⟩ := hp
  by_cases hx : h < t
  · rw [fel_hot hx]
    have HM := Lib.hid fun wx => min_any (t - h + r) (9 - f) wx
    generalize min (t - h + r) (9 - f) = m at *
    go_enter Tryd.func39, Tryd.ntmps39
    go_wp2_with fail
    go_quiet (fail)
    go_wp2_with fail
    go_quiet (fail)
    go_wp2_with fail
    refine (HM.out _).mono ?_
    rintro e w' ⟨rfl, rfl⟩
    go_wp2
    go_ret
    exact ⟨rfl, _, rfl⟩
  · rw [fel_cool hx]
    have HM := Lib.hid fun wx => min_any (r / 3) (9 - f) wx
    generalize min (r / 3) (9 - f) = m at *
    go_enter Tryd.func39, Tryd.ntmps39
    go_wp2_with fail
    go_quiet (fail)
    go_wp2_with fail
    refine (HM.out _).mono ?_
    rintro e w' ⟨rfl, rfl⟩
    go_wp2
    go_ret
    exact ⟨rfl, _, rfl⟩

theorem res5 {wr : World} {rb : Nat} {a0 a1 a2 a3 a4 : Value} (x0 x1 x2 x3 x4 : Value) (h0 : wr.cell? ⟨rb, 0, none⟩ = some a0) (h1 : wr.cell? ⟨rb, 1, none⟩ = some a1) (h2 : wr.cell? ⟨rb, 2, none⟩ = some a2) (h3 : wr.cell? ⟨rb, 3, none⟩ = some a3) (h4 : wr.cell? ⟨rb, 4, none⟩ = some a4) :
    (wr.setCell ⟨rb, 0, none⟩ x0).cell? ⟨rb, 0, none⟩ = some x0 ∧ ((wr.setCell ⟨rb, 0, none⟩ x0).setCell ⟨rb, 1, none⟩ x1).cell? ⟨rb, 1, none⟩ = some x1 ∧ (((wr.setCell ⟨rb, 0, none⟩ x0).setCell ⟨rb, 1, none⟩ x1).setCell ⟨rb, 2, none⟩ x2).cell? ⟨rb, 2, none⟩ = some x2 ∧ ((((wr.setCell ⟨rb, 0, none⟩ x0).setCell ⟨rb, 1, none⟩ x1).setCell ⟨rb, 2, none⟩ x2).setCell ⟨rb, 3, none⟩ x3).cell? ⟨rb, 3, none⟩ = some x3 ∧ (((((wr.setCell ⟨rb, 0, none⟩ x0).setCell ⟨rb, 1, none⟩ x1).setCell ⟨rb, 2, none⟩ x2).setCell ⟨rb, 3, none⟩ x3).setCell ⟨rb, 4, none⟩ x4).cell? ⟨rb, 4, none⟩ = some x4 :=
  ⟨World.cell?_setCell_same _ _ _ h0, World.cell?_setCell_same _ _ _ ((World.cell?_setCell_other _ _ _ _ (by simp)).trans h1), World.cell?_setCell_same _ _ _ ((World.cell?_setCell_other _ _ _ _ (by simp)).trans ((World.cell?_setCell_other _ _ _ _ (by simp)).trans h2)), World.cell?_setCell_same _ _ _ ((World.cell?_setCell_other _ _ _ _ (by simp)).trans ((World.cell?_setCell_other _ _ _ _ (by simp)).trans ((World.cell?_setCell_other _ _ _ _ (by simp)).trans h3))), World.cell?_setCell_same _ _ _ ((World.cell?_setCell_other _ _ _ _ (by simp)).trans ((World.cell?_setCell_other _ _ _ _ (by simp)).trans ((World.cell?_setCell_other _ _ _ _ (by simp)).trans ((World.cell?_setCell_other _ _ _ _ (by simp)).trans h4))))⟩

/-- What the walk says of a wrapped number. -/
theorem wrap8 {n : Int} (h : -128 ≤ n ∧ n ≤ 127) : IntKind.i8.wrap n = n := IntWalk.i8_in n h
theorem wrap16 {n : Int} (h : -32768 ≤ n ∧ n ≤ 32767) : IntKind.i16.wrap n = n := IntWalk.i16_in n h

set_option maxRecDepth 100000 in
set_option maxHeartbeats 4000000 in
theorem l06Washed_any (b2 o : Nat) (x y d f h t r c : Int) (w : World) (hx : 1 ≤ x ∧ x ≤ 1000) (hy : 1 ≤ y ∧ y ≤ 1000) (hd : 0 ≤ d ∧ d ≤ 9) (hf : 0 ≤ f ∧ f ≤ 9) (hh : 0 ≤ h ∧ h ≤ 9) (ht : 0 ≤ t ∧ t ≤ 9) (hr : 0 ≤ r ∧ r ≤ 9) (hc : 0 ≤ c ∧ c ≤ 9) (hp : PBox w b2 o t r c) :
    Calls Tryd.prog 43 #[.agg #[.int .i16 x, .int .i16 y, .int .i8 d, .int .i8 f, .int .i8 h], .pointer (some ⟨b2, o, none⟩)] w fun e w' => e = .returned (.agg #[.int .i16 (shr x (fel f h t r)), .int .i16 (shr y (fel f h t r)), .int .i8 (max 0 (d - c)), .int .i8 (f + fel f h t r), .int .i8 h]) ∧ Below w.heap.size w w' := by
  have HF := Lib.hid (l06Felts_any w.heap.size b2 o x y d f h t r c ((w.alloc (.cells #[.int .i16 x, .int .i16 y, .int .i8 d, .int .i8 f, .int .i8 h] 27)).alloc (.cells #[.int .i16 0, .int .i16 0, .int .i8 0, .int .i8 0, .int .i8 0] 27)) hf hh ht hr ⟨by simp [go_sem], by simp [go_sem], by simp [go_sem], by simp [go_sem], by simp [go_sem]⟩ (hp.below (by go_grown)))
  obtain ⟨k1, k2⟩ := fel_bd (f := f) (h := h) (t := t) (r := r) hf hr
  obtain ⟨x3, x4, x5, x6⟩ := shr_bd (s := x) (k := fel f h t r) hx (by omega)
  obtain ⟨y3, y4, y5, y6⟩ := shr_bd (s := y) (k := fel f h t r) hy (by omega)
  generalize fel f h t r = k at *
  obtain ⟨x1, x2⟩ := hx
  obtain ⟨y1, y2⟩ := hy
  obtain ⟨d1, d2⟩ := hd
  obtain ⟨f1, f2⟩ := hf
  obtain ⟨c1, c2⟩ := hc
  have HP : Hid (PBox ((w.alloc (.cells #[.int .i16 x, .int .i16 y, .int .i8 d, .int .i8 f, .int .i8 h] 27)).alloc (.cells #[.int .i16 0, .int .i16 0, .int .i8 0, .int .i8 0, .int .i8 0] 27)) b2 o t r c) := Lib.hid (hp.below (by go_grown))
  have M0 := Lib.hid fun wx => max_any 0 (d - c) wx
  have M1 := Lib.hid fun wx => max_any 1 (x * (100 - 2 * k) / 100) wx
  have M2 := Lib.hid fun wx => max_any 1 (y * (100 - 2 * k) / 100) wx
  have e0 : 0 ≤ max 0 (d - c) ∧ max 0 (d - c) ≤ 9 := by omega
  obtain ⟨e1, e2⟩ := e0
  unfold shr at *
  generalize max 0 (d - c) = m0 at *
  generalize max 1 (x * (100 - 2 * k) / 100) = m1 at *
  generalize max 1 (y * (100 - 2 * k) / 100) = m2 at *
  clear hh ht hr hp
  go_enter Tryd.func43, Tryd.ntmps43
  go_wp2_with fail
  refine HF.out.mono ?_
  rintro e w1 ⟨rfl, n, rfl⟩
  obtain ⟨p0, p1, p2⟩ := HP.out
  have u1 : IntKind.i64.wrap d = d := IntWalk.i64_in d (by omega)
  have u2 : IntKind.i64.wrap c = c := IntWalk.i64_in c (by omega)
  have u3 : IntKind.i64.wrap (d - c) = d - c := IntWalk.i64_in _ (by omega)
  have u4 : IntKind.i8.wrap m0 = m0 := IntWalk.i8_in _ (by omega)
  go_wp2_with fail
  go_region_with (first | (go_at_call 54; refine (M0.out _).mono ?_; rintro e w' ⟨rfl, rfl⟩))
  all_goals
    clear u1 u2 u3 u4 p0 p1 p2
    go_wp2_with fail
    refine (M1.out _).mono ?_
    rintro e w' ⟨rfl, rfl⟩
    go_wp2_with fail
    refine (M2.out _).mono ?_
    rintro e w' ⟨rfl, rfl⟩
    go_wp2
    go_returns
    refine ⟨rfl, ?_⟩
    go_grown
    exact below_drewN (by go_grown) _

set_option maxRecDepth 100000 in
set_option maxHeartbeats 4000000 in
theorem washed_any (x y d f h t r c : Int) (w : World) (hx : 1 ≤ x ∧ x ≤ 1000) (hy : 1 ≤ y ∧ y ≤ 1000) (hd : 0 ≤ d ∧ d ≤ 9) (hf : 0 ≤ f ∧ f ≤ 9) (hh : 0 ≤ h ∧ h ≤ 9) (ht : 0 ≤ t ∧ t ≤ 9) (hr : 0 ≤ r ∧ r ≤ 9) (hc : 0 ≤ c ∧ c ≤ 9) :
    Calls Tryd.prog 44 #[.agg #[.int .i16 x, .int .i16 y, .int .i8 d, .int .i8 f, .int .i8 h], .agg #[.int .i8 t, .int .i8 r, .int .i8 c]] w fun e w' => e = .returned (.agg #[.int .i16 (shr x (fel f h t r)), .int .i16 (shr y (fel f h t r)), .int .i8 (max 0 (d - c)), .int .i8 (f + fel f h t r), .int .i8 h]) ∧ Below w.heap.size w w' := by
  have HF := Lib.hid fun wx => implFelts_any x y d f h t r c wx hf hh ht hr
  obtain ⟨k1, k2⟩ := fel_bd (f := f) (h := h) (t := t) (r := r) hf hr
  have S1 := Lib.hid fun wx => shrunk_any x (fel f h t r) wx hx (by omega)
  have S2 := Lib.hid fun wx => shrunk_any y (fel f h t r) wx hy (by omega)
  generalize shr x (fel f h t r) = m1 at *
  generalize shr y (fel f h t r) = m2 at *
  generalize fel f h t r = k at *
  obtain ⟨x1, x2⟩ := hx
  obtain ⟨y1, y2⟩ := hy
  obtain ⟨d1, d2⟩ := hd
  obtain ⟨f1, f2⟩ := hf
  obtain ⟨h1, h2⟩ := hh
  obtain ⟨c1, c2⟩ := hc
  obtain ⟨m0, hm0⟩ : ∃ m, max 0 (d - c) = m := ⟨_, rfl⟩
  rw [hm0]
  have HM := Lib.hid (show (if c < d then d - c else 0) = m0 by rw [← hm0]; split <;> omega)
  clear ht hr hm0
  go_enter Tryd.func44, Tryd.ntmps44
  go_wp2_with fail
  refine (HF.out _).mono ?_
  rintro e w1 ⟨rfl, hB⟩
  have B1 : Hid (Below w.heap.size w w1) := Lib.hid ((by go_grown : Below w.heap.size w (((w.alloc (.cells #[.int .i16 x, .int .i16 y, .int .i8 d, .int .i8 f, .int .i8 h] 27)).alloc (.cells #[.int .i8 t, .int .i8 r, .int .i8 c] 33)).alloc (.cells #[.int .i16 0, .int .i16 0, .int .i8 0, .int .i8 0, .int .i8 0] 27))).trans (hB.mono (by simp only [World.size_alloc]; omega)))
  have c0 : w1.cell? ⟨w.heap.size, 0, none⟩ = some (.int .i16 x) := (hB.cell (p := ⟨w.heap.size, 0, none⟩) (by simp only [World.size_alloc]; omega)).trans (by simp [go_sem])
  have c1' : w1.cell? ⟨w.heap.size, 1, none⟩ = some (.int .i16 y) := (hB.cell (p := ⟨w.heap.size, 1, none⟩) (by simp only [World.size_alloc]; omega)).trans (by simp [go_sem])
  have c2' : w1.cell? ⟨w.heap.size, 2, none⟩ = some (.int .i8 d) := (hB.cell (p := ⟨w.heap.size, 2, none⟩) (by simp only [World.size_alloc]; omega)).trans (by simp [go_sem])
  have c3 : w1.cell? ⟨w.heap.size, 3, none⟩ = some (.int .i8 f) := (hB.cell (p := ⟨w.heap.size, 3, none⟩) (by simp only [World.size_alloc]; omega)).trans (by simp [go_sem])
  have c4 : w1.cell? ⟨w.heap.size, 4, none⟩ = some (.int .i8 h) := (hB.cell (p := ⟨w.heap.size, 4, none⟩) (by simp only [World.size_alloc]; omega)).trans (by simp [go_sem])
  have p2 : w1.cell? ⟨w.heap.size + 1, 2, none⟩ = some (.int .i8 c) := (hB.cell (p := ⟨w.heap.size + 1, 2, none⟩) (by simp only [World.size_alloc]; omega)).trans (by simp [go_sem])
  have r0 : w1.cell? ⟨w.heap.size + 1 + 1, 0, none⟩ = some (.int .i16 0) := (hB.cell (p := ⟨w.heap.size + 1 + 1, 0, none⟩) (by simp only [World.size_alloc]; omega)).trans (by simp [go_sem])
  have r1 : w1.cell? ⟨w.heap.size + 1 + 1, 1, none⟩ = some (.int .i16 0) := (hB.cell (p := ⟨w.heap.size + 1 + 1, 1, none⟩) (by simp only [World.size_alloc]; omega)).trans (by simp [go_sem])
  have r2 : w1.cell? ⟨w.heap.size + 1 + 1, 2, none⟩ = some (.int .i8 0) := (hB.cell (p := ⟨w.heap.size + 1 + 1, 2, none⟩) (by simp only [World.size_alloc]; omega)).trans (by simp [go_sem])
  have r3 : w1.cell? ⟨w.heap.size + 1 + 1, 3, none⟩ = some (.int .i8 0) := (hB.cell (p := ⟨w.heap.size + 1 + 1, 3, none⟩) (by simp only [World.size_alloc]; omega)).trans (by simp [go_sem])
  have r4 : w1.cell? ⟨w.heap.size + 1 + 1, 4, none⟩ = some (.int .i8 0) := (hB.cell (p := ⟨w.heap.size + 1 + 1, 4, none⟩) (by simp only [World.size_alloc]; omega)).trans (by simp [go_sem])
  have fz : ∀ o : Nat, w1.frozen? ⟨w.heap.size + 1 + 1, o, none⟩ = false := fun o => (hB.frozen (p := ⟨w.heap.size + 1 + 1, o, none⟩) (by simp only [World.size_alloc]; omega)).trans (by simp [go_sem])
  clear hB HF
  have u1 : IntKind.i8.wrap (d - c) = d - c := IntWalk.i8_in _ (by omega)
  have u2 : IntKind.i8.wrap k = k := IntWalk.i8_in _ (by omega)
  have u3 : IntKind.i8.wrap (f + k) = f + k := IntWalk.i8_in _ (by omega)
  go_wp2_with fail
  refine wp_region_still_tail 22 (by kernel_rfl) (by kernel_rfl) ?_
  simp only [List.take_succ_cons, List.take_zero, List.drop_succ_cons, List.drop_zero]
  still_step
  still_step
  still_step
  still_call ((S1.out _).mono fun e w' ⟨h, h'⟩ => ⟨h, h'.symm⟩)
  still_step
  still_step
  still_step
  still_call ((S2.out _).mono fun e w' ⟨h, h'⟩ => ⟨h, h'.symm⟩)
  repeat still_step
  refine wpStill_nil ?_
  change wpList _ _ _ _ _ w1.drew
  rw [HM.out]
  clear u1 u2 u3
  obtain ⟨e0, e1, e2, e3, e4⟩ := res5 (.int .i16 m1) (.int .i16 m2) (.int .i8 m0) (.int .i8 (f + k)) (.int .i8 h) r0 r1 r2 r3 r4
  go_wp2
  refine bodyPost_ret (by simp [results, Tryd.results44, go_sem, e0, e1, e2, e3, e4]; try rfl) rfl ?_
  refine ⟨rfl, ?_⟩
  go_grown
  exact B1.out
end Go.Proofs.YtlmdojofjdfeeaaDoor
