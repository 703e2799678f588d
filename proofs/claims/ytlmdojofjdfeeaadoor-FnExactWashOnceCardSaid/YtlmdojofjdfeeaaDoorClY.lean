/-
  No statement is proved here: FeltsBy and WashOnce, in the document's own text and in the program; condition: the program's errors and the library's errorType lie where their texts lay them.
-/
import Derived.Test.YtlmdojofjdfeeaaDoorClX
import Derived.Test.YtlmdojofjdfeeaaDoorClW
import Derived.Test.YtlmdojofjdfeeaaDoorAs
namespace Go.Proofs.YtlmdojofjdfeeaaDoor
open Go.ChangeShapes Go.WideShapes Go.ChangeAt Go.RowKit

/-- A cloth and a program in their boxes. -/
def CP (w w' : World) (x y d f h t r c : Int) : Prop := CBox w' w.heap.size x y d f h ∧ PBox w' (w.heap.size + 1) 0 t r c ∧ Below w.heap.size w w'
theorem CP.next {w w1 w2 : World} {x y d f h t r c : Int} (H : CP w w1 x y d f h t r c) (hB : Below w1.heap.size w1 w2) : CP w w2 x y d f h t r c :=
  ⟨H.1.below hB, H.2.1.below hB, H.2.2.trans (hB.mono H.2.2.size)⟩
theorem CP.made (w : World) (T U : TypeId) (x y d f h t r c : Int) : CP w ((w.alloc (.cells #[.int .i16 x, .int .i16 y, .int .i8 d, .int .i8 f, .int .i8 h] T)).alloc (.cells #[.int .i8 t, .int .i8 r, .int .i8 c] U)) x y d f h t r c :=
  ⟨⟨by simp [go_sem], by simp [go_sem], by simp [go_sem], by simp [go_sem], by simp [go_sem]⟩, ⟨by simp [go_sem], by simp [go_sem], by simp [go_sem]⟩, by go_grown⟩
theorem CP.alloc {w w1 : World} {x y d f h t r c : Int} (H : CP w w1 x y d f h t r c) (o : Obj) : CP w (w1.alloc o) x y d f h t r c := H.next ((Below.refl _ _).alloc (Nat.le_refl _) _)
/-- One program as a slice. -/
theorem one_prog {w : World} {b : Nat} {t r c : Int} (h : PBox w b 0 t r c) (ht : Is8 t) (hr : Is8 r) (hc : Is8 c) : Progs w (.slice (some ⟨b, 0, none⟩) 1 1) [(t, r, c)] := by
  refine ⟨fun j => ?_, .inr ⟨b, 0, 1, rfl, by simp, World.block_lt_of_cell? w _ h.1, fun j hj => ?_⟩⟩
  · cases j with
    | zero => exact ⟨ht, hr, hc⟩
    | succ j => simp [pat, Is8P]
  · obtain rfl : j = 0 := by simp at hj; omega
    exact h
theorem ask1 {x y d f h t r c : Int} : askF x y d f h [(t, r, c)] = if (okC x y d f h && okP t r c) = true then 0 else 1 := by
  have e : allP [(t, r, c)] = okP t r c := by simp [allP, okQ]
  unfold askF
  rw [e]
  cases okC x y d f h <;> cases okP t r c <;> simp
theorem neqNil_unfit (w : World) : (binOp .neq 65 (.iface 92 (.agg #[])) .nilIface).run Tryd.prog w = .ok (.bool true) w := by kernel_rfl
theorem neqNil_over (n : Int) (w : World) : (binOp .neq 65 (.iface 79 (.agg #[.int .i64 n])) .nilIface).run Tryd.prog w = .ok (.bool true) w := by kernel_rfl
/-- What FeltsBy answers. -/
def felF (x y d f h t r c : Int) : Int × Int := if (okC x y d f h && okP t r c) = true then (fel f h t r, 0) else (0, 1)
theorem felF_yes {x y d f h t r c : Int} (e : (okC x y d f h && okP t r c) = true) : felF x y d f h t r c = (fel f h t r, 0) := if_pos e
theorem felF_no {x y d f h t r c : Int} (e : (okC x y d f h && okP t r c) = false) : felF x y d f h t r c = (0, 1) := if_neg (by simp [e])
/-- What WashOnce answers. -/
def wasF (x y d f h t r c : Int) : Int × Int × Int × Int × Int × Int :=
  if (okC x y d f h && okP t r c) = true then (shr x (fel f h t r), shr y (fel f h t r), max 0 (d - c), f + fel f h t r, h, 0) else (0, 0, 0, 0, 0, 1)
theorem wasF_yes {x y d f h t r c : Int} (e : (okC x y d f h && okP t r c) = true) : wasF x y d f h t r c = (shr x (fel f h t r), shr y (fel f h t r), max 0 (d - c), f + fel f h t r, h, 0) := if_pos e
theorem wasF_no {x y d f h t r c : Int} (e : (okC x y d f h && okP t r c) = false) : wasF x y d f h t r c = (0, 0, 0, 0, 0, 1) := if_neg (by simp [e])
theorem both_of {a b : Bool} (h : (a && b) = true) : a = true ∧ b = true := by simpa using h

set_option maxRecDepth 100000 in
set_option maxHeartbeats 4000000 in
theorem specFeltsBy_any (x y d f h t r c : Int) (w : World) (hx : IsS x) (hy : IsS y) (hd : Is8 d) (hf : Is8 f) (hh : Is8 h) (ht : Is8 t) (hr : Is8 r) (hc : Is8 c) :
    Calls Tryd.prog 16 #[.agg #[.int .i16 x, .int .i16 y, .int .i8 d, .int .i8 f, .int .i8 h], .agg #[.int .i8 t, .int .i8 r, .int .i8 c]] w fun e w' => e = .returned (.tuple #[.int .i64 (felF x y d f h t r c).1, .int .i64 (felF x y d f h t r c).2]) ∧ Below w.heap.size w w' := by
  have K0 : Hid (CP w ((w.alloc (.cells #[.int .i16 x, .int .i16 y, .int .i8 d, .int .i8 f, .int .i8 h] 27)).alloc (.cells #[.int .i8 t, .int .i8 r, .int .i8 c] 33)) x y d f h t r c) := Lib.hid (CP.made w _ _ x y d f h t r c)
  have H1 := Lib.hid (l06Ok_any w.heap.size x y d f h _ hd hf hh hx hy K0.out.1)
  have H2 := Lib.hid (l06Program_any (w.heap.size + 1) 0 t r c _ ht hr hc K0.out.2.1)
  clear hx hy hd hf hh ht hr hc
  cases hok : (okC x y d f h && okP t r c) with
  | false =>
    rw [felF_no hok]
    cases h1 : okC x y d f h with
    | false =>
      rw [h1] at H1
      clear hok h1 H2
      go_enter Tryd.func16, Tryd.ntmps16
      go_wp2_with fail
      refine H1.out.mono ?_
      rintro e w' ⟨rfl, rfl⟩
      go_wp2
      go_ret2
      exact ⟨rfl, by go_grown⟩
    | true =>
      rw [h1] at hok H1
      have h2 : okP t r c = false := by simpa using hok
      rw [h2] at H2
      clear hok h1 h2
      go_enter Tryd.func16, Tryd.ntmps16
      go_wp2_with fail
      refine H1.out.mono ?_
      rintro e w' ⟨rfl, rfl⟩
      go_wp2_with fail
      refine H2.out.mono ?_
      rintro e w' ⟨rfl, rfl⟩
      go_wp2
      go_ret2
      exact ⟨rfl, by go_grown⟩
  | true =>
    rw [felF_yes hok]
    obtain ⟨gx, gy, gd, gf, gh⟩ := okC_of (both_of hok).1
    obtain ⟨gt, gr, gc⟩ := okP_of (both_of hok).2
    have H3 := Lib.hid (l06Felts_any w.heap.size (w.heap.size + 1) 0 x y d f h t r c _ gf gh gt gr K0.out.1 K0.out.2.1)
    rw [(both_of hok).1] at H1
    rw [(both_of hok).2] at H2
    clear hok gx gy gd gf gh gt gr gc
    generalize fel f h t r = k at *
    go_enter Tryd.func16, Tryd.ntmps16
    go_wp2_with fail
    refine H1.out.mono ?_
    rintro e w' ⟨rfl, rfl⟩
    go_wp2_with fail
    refine H2.out.mono ?_
    rintro e w' ⟨rfl, rfl⟩
    go_wp2_with fail
    refine H3.out.mono ?_
    rintro e w1 ⟨rfl, n, rfl⟩
    go_wp2
    go_ret2
    refine ⟨rfl, ?_⟩
    exact below_drewN (by go_grown) _

set_option maxRecDepth 100000 in
set_option maxHeartbeats 4000000 in
theorem specWashOnce_any (x y d f h t r c : Int) (w : World) (hx : IsS x) (hy : IsS y) (hd : Is8 d) (hf : Is8 f) (hh : Is8 h) (ht : Is8 t) (hr : Is8 r) (hc : Is8 c) :
    Calls Tryd.prog 18 #[.agg #[.int .i16 x, .int .i16 y, .int .i8 d, .int .i8 f, .int .i8 h], .agg #[.int .i8 t, .int .i8 r, .int .i8 c]] w fun e w' => e = .returned (.tuple #[.agg #[.int .i16 (wasF x y d f h t r c).1, .int .i16 (wasF x y d f h t r c).2.1, .int .i8 (wasF x y d f h t r c).2.2.1, .int .i8 (wasF x y d f h t r c).2.2.2.1, .int .i8 (wasF x y d f h t r c).2.2.2.2.1], .int .i64 (wasF x y d f h t r c).2.2.2.2.2]) ∧ Below w.heap.size w w' := by
  have K0 : Hid (CP w (((w.alloc (.cells #[.int .i16 x, .int .i16 y, .int .i8 d, .int .i8 f, .int .i8 h] 27)).alloc (.cells #[.int .i8 t, .int .i8 r, .int .i8 c] 33)).alloc (.cells #[.int .i16 0, .int .i16 0, .int .i8 0, .int .i8 0, .int .i8 0] 27)) x y d f h t r c) := Lib.hid (CP.alloc (CP.made w _ _ x y d f h t r c) _)
  have H1 := Lib.hid (l06Ok_any w.heap.size x y d f h _ hd hf hh hx hy K0.out.1)
  have H2 := Lib.hid (l06Program_any (w.heap.size + 1) 0 t r c _ ht hr hc K0.out.2.1)
  clear hx hy hd hf hh ht hr hc
  cases hok : (okC x y d f h && okP t r c) with
  | false =>
    rw [wasF_no hok]
    cases h1 : okC x y d f h with
    | false =>
      rw [h1] at H1
      clear hok h1 H2
      go_enter Tryd.func18, Tryd.ntmps18
      go_wp2_with fail
      refine H1.out.mono ?_
      rintro e w' ⟨rfl, rfl⟩
      go_wp2
      go_returns
      exact ⟨rfl, by go_grown⟩
    | true =>
      rw [h1] at hok H1
      have h2 : okP t r c = false := by simpa using hok
      rw [h2] at H2
      clear hok h1 h2
      go_enter Tryd.func18, Tryd.ntmps18
      go_wp2_with fail
      refine H1.out.mono ?_
      rintro e w' ⟨rfl, rfl⟩
      go_wp2_with fail
      refine H2.out.mono ?_
      rintro e w' ⟨rfl, rfl⟩
      go_wp2
      go_returns
      exact ⟨rfl, by go_grown⟩
  | true =>
    rw [wasF_yes hok]
    obtain ⟨gx, gy, gd, gf, gh⟩ := okC_of (both_of hok).1
    obtain ⟨gt, gr, gc⟩ := okP_of (both_of hok).2
    have H3 := Lib.hid (l06Washed_any (w.heap.size + 1) 0 x y d f h t r c _ gx gy gd gf gh gt gr gc K0.out.2.1)
    rw [(both_of hok).1] at H1
    rw [(both_of hok).2] at H2
    clear hok gx gy gd gf gh gt gr gc
    generalize shr x (fel f h t r) = m1 at *
    generalize shr y (fel f h t r) = m2 at *
    generalize max 0 (d - c) = m3 at *
    generalize f + fel f h t r = m4 at *
    go_enter Tryd.func18, Tryd.ntmps18
    go_wp2_with fail
    refine H1.out.mono ?_
    rintro e w' ⟨rfl, rfl⟩
    go_wp2_with fail
    refine H2.out.mono ?_
    rintro e w' ⟨rfl, rfl⟩
    go_wp2_with fail
    refine H3.out.mono ?_
    rintro e w1 ⟨rfl, hB⟩
    have B1 := Lib.hid (K0.out.2.2.trans (hB.mono K0.out.2.2.size))
    have r0 : w1.cell? ⟨w.heap.size + 1 + 1, 0, none⟩ = some (.int .i16 0) := (hB.cell (p := ⟨w.heap.size + 1 + 1, 0, none⟩) (by simp only [World.size_alloc]; omega)).trans (by simp [go_sem])
    have r1 : w1.cell? ⟨w.heap.size + 1 + 1, 1, none⟩ = some (.int .i16 0) := (hB.cell (p := ⟨w.heap.size + 1 + 1, 1, none⟩) (by simp only [World.size_alloc]; omega)).trans (by simp [go_sem])
    have r2 : w1.cell? ⟨w.heap.size + 1 + 1, 2, none⟩ = some (.int .i8 0) := (hB.cell (p := ⟨w.heap.size + 1 + 1, 2, none⟩) (by simp only [World.size_alloc]; omega)).trans (by simp [go_sem])
    have r3 : w1.cell? ⟨w.heap.size + 1 + 1, 3, none⟩ = some (.int .i8 0) := (hB.cell (p := ⟨w.heap.size + 1 + 1, 3, none⟩) (by simp only [World.size_alloc]; omega)).trans (by simp [go_sem])
    have r4 : w1.cell? ⟨w.heap.size + 1 + 1, 4, none⟩ = some (.int .i8 0) := (hB.cell (p := ⟨w.heap.size + 1 + 1, 4, none⟩) (by simp only [World.size_alloc]; omega)).trans (by simp [go_sem])
    have fz : ∀ o : Nat, w1.frozen? ⟨w.heap.size + 1 + 1, o, none⟩ = false := fun o => (hB.frozen (p := ⟨w.heap.size + 1 + 1, o, none⟩) (by simp only [World.size_alloc]; omega)).trans (by simp [go_sem])
    obtain ⟨e0, e1, e2, e3, e4⟩ := res5 (.int .i16 m1) (.int .i16 m2) (.int .i8 m3) (.int .i8 m4) (.int .i8 h) r0 r1 r2 r3 r4
    clear hB
    go_wp2
    refine bodyPost_ret (by simp [results, Tryd.results18, go_sem, e0, e1, e2, e3, e4]; try rfl) rfl ?_
    refine ⟨rfl, ?_⟩
    go_grown
    exact B1.out

set_option maxRecDepth 100000 in
set_option maxHeartbeats 4000000 in
theorem implFeltsBy_any (p : Nat → Addr) (x y d f h t r c : Int) (w : World) (hs : Sent7 w p) (hx : IsS x) (hy : IsS y) (hd : Is8 d) (hf : Is8 f) (hh : Is8 h) (ht : Is8 t) (hr : Is8 r) (hc : Is8 c) :
    Calls Tryd.prog 17 #[.agg #[.int .i16 x, .int .i16 y, .int .i8 d, .int .i8 f, .int .i8 h], .agg #[.int .i8 t, .int .i8 r, .int .i8 c]] w fun e w' => e = .returned (.tuple #[.int .i64 (felF x y d f h t r c).1, .int .i64 (felF x y d f h t r c).2]) ∧ Below w.heap.size w w' := by
  have HS := Lib.hid hs
  have K0 : Hid (CP w (((w.alloc (.cells #[.int .i16 x, .int .i16 y, .int .i8 d, .int .i8 f, .int .i8 h] 27)).alloc (.cells #[.int .i8 t, .int .i8 r, .int .i8 c] 33)).alloc (.cells #[.int .i8 t, .int .i8 r, .int .i8 c] 33)) x y d f h t r c) := Lib.hid (CP.alloc (CP.made w _ _ x y d f h t r c) _)
  have H1 := Lib.hid (checkWashes_any p x y d f h (.slice (some ⟨w.heap.size + 1 + 1, 0, none⟩) 1 1) [(t, r, c)] (((w.alloc (.cells #[.int .i16 x, .int .i16 y, .int .i8 d, .int .i8 f, .int .i8 h] 27)).alloc (.cells #[.int .i8 t, .int .i8 r, .int .i8 c] 33)).alloc (.cells #[.int .i8 t, .int .i8 r, .int .i8 c] 33)) (hs.three.below K0.out.2.2) hx hy hd hf hh (one_prog ⟨by simp [go_sem], by simp [go_sem], by simp [go_sem]⟩ ht hr hc) (by simp))
  rw [ask1] at H1
  clear hx hy hd hf hh ht hr hc hs
  have q1 := neqNil_unfit
  have q2 := neqNil_nil
  cases hok : (okC x y d f h && okP t r c) with
  | false =>
    rw [felF_no hok]
    rw [hok, if_neg (by simp), refV_1] at H1
    clear hok
    go_enter Tryd.func17, Tryd.ntmps17
    go_wp2_with fail
    refine H1.out.mono ?_
    rintro e w1 ⟨rfl, hB⟩
    have K1 := Lib.hid (K0.out.next hB)
    clear hB
    go_wp2_with fail
    refine (refusal_unfit p _ (HS.out.below K1.out.2.2)).mono ?_
    rintro e w2 ⟨rfl, hB⟩
    have K2 := Lib.hid (K1.out.next hB)
    clear hB
    go_wp2
    go_ret2
    exact ⟨rfl, K2.out.2.2⟩
  | true =>
    rw [felF_yes hok]
    obtain ⟨gx, gy, gd, gf, gh⟩ := okC_of (both_of hok).1
    obtain ⟨gt, gr, gc⟩ := okP_of (both_of hok).2
    have H3 := Lib.hid fun wx => implFelts_any x y d f h t r c wx gf gh gt gr
    rw [hok, if_pos rfl, refV_0] at H1
    clear hok gx gy gd gf gh gt gr gc
    generalize fel f h t r = k at *
    go_enter Tryd.func17, Tryd.ntmps17
    go_wp2_with fail
    refine H1.out.mono ?_
    rintro e w1 ⟨rfl, hB⟩
    have K1 := Lib.hid (K0.out.next hB)
    clear hB
    obtain ⟨⟨a0, a1, a2, a3, a4⟩, ⟨b0, b1, b2⟩, _⟩ := K1.out
    go_wp2_with fail
    refine (H3.out _).mono ?_
    rintro e w2 ⟨rfl, hB⟩
    have K2 := Lib.hid (K1.out.next hB)
    clear hB a0 a1 a2 a3 a4 b0 b1 b2
    go_wp2
    go_ret2
    exact ⟨rfl, K2.out.2.2⟩

set_option maxRecDepth 100000 in
set_option maxHeartbeats 4000000 in
theorem implWashOnce_any (p : Nat → Addr) (x y d f h t r c : Int) (w : World) (hs : Sent7 w p) (hx : IsS x) (hy : IsS y) (hd : Is8 d) (hf : Is8 f) (hh : Is8 h) (ht : Is8 t) (hr : Is8 r) (hc : Is8 c) :
    Calls Tryd.prog 19 #[.agg #[.int .i16 x, .int .i16 y, .int .i8 d, .int .i8 f, .int .i8 h], .agg #[.int .i8 t, .int .i8 r, .int .i8 c]] w fun e w' => e = .returned (.tuple #[.agg #[.int .i16 (wasF x y d f h t r c).1, .int .i16 (wasF x y d f h t r c).2.1, .int .i8 (wasF x y d f h t r c).2.2.1, .int .i8 (wasF x y d f h t r c).2.2.2.1, .int .i8 (wasF x y d f h t r c).2.2.2.2.1], .int .i64 (wasF x y d f h t r c).2.2.2.2.2]) ∧ Below w.heap.size w w' := by
  have HS := Lib.hid hs
  have K0 : Hid (CP w ((((w.alloc (.cells #[.int .i16 x, .int .i16 y, .int .i8 d, .int .i8 f, .int .i8 h] 27)).alloc (.cells #[.int .i8 t, .int .i8 r, .int .i8 c] 33)).alloc (.cells #[.int .i16 0, .int .i16 0, .int .i8 0, .int .i8 0, .int .i8 0] 27)).alloc (.cells #[.int .i8 t, .int .i8 r, .int .i8 c] 33)) x y d f h t r c) := Lib.hid (CP.alloc (CP.alloc (CP.made w _ _ x y d f h t r c) _) _)
  have H1 := Lib.hid (checkWashes_any p x y d f h (.slice (some ⟨w.heap.size + 1 + 1 + 1, 0, none⟩) 1 1) [(t, r, c)] ((((w.alloc (.cells #[.int .i16 x, .int .i16 y, .int .i8 d, .int .i8 f, .int .i8 h] 27)).alloc (.cells #[.int .i8 t, .int .i8 r, .int .i8 c] 33)).alloc (.cells #[.int .i16 0, .int .i16 0, .int .i8 0, .int .i8 0, .int .i8 0] 27)).alloc (.cells #[.int .i8 t, .int .i8 r, .int .i8 c] 33)) (hs.three.below K0.out.2.2) hx hy hd hf hh (one_prog ⟨by simp [go_sem], by simp [go_sem], by simp [go_sem]⟩ ht hr hc) (by simp))
  rw [ask1] at H1
  clear hx hy hd hf hh ht hr hc hs
  have q1 := neqNil_unfit
  have q2 := neqNil_nil
  cases hok : (okC x y d f h && okP t r c) with
  | false =>
    rw [wasF_no hok]
    rw [hok, if_neg (by simp), refV_1] at H1
    clear hok
    go_enter Tryd.func19, Tryd.ntmps19
    go_wp2_with fail
    refine H1.out.mono ?_
    rintro e w1 ⟨rfl, hB⟩
    have K1 := Lib.hid (K0.out.next hB)
    have r0 : w1.cell? ⟨w.heap.size + 1 + 1, 0, none⟩ = some (.int .i16 0) := (hB.cell (p := ⟨w.heap.size + 1 + 1, 0, none⟩) (by simp only [World.size_alloc]; omega)).trans (by simp [go_sem])
    have r1 : w1.cell? ⟨w.heap.size + 1 + 1, 1, none⟩ = some (.int .i16 0) := (hB.cell (p := ⟨w.heap.size + 1 + 1, 1, none⟩) (by simp only [World.size_alloc]; omega)).trans (by simp [go_sem])
    have r2 : w1.cell? ⟨w.heap.size + 1 + 1, 2, none⟩ = some (.int .i8 0) := (hB.cell (p := ⟨w.heap.size + 1 + 1, 2, none⟩) (by simp only [World.size_alloc]; omega)).trans (by simp [go_sem])
    have r3 : w1.cell? ⟨w.heap.size + 1 + 1, 3, none⟩ = some (.int .i8 0) := (hB.cell (p := ⟨w.heap.size + 1 + 1, 3, none⟩) (by simp only [World.size_alloc]; omega)).trans (by simp [go_sem])
    have r4 : w1.cell? ⟨w.heap.size + 1 + 1, 4, none⟩ = some (.int .i8 0) := (hB.cell (p := ⟨w.heap.size + 1 + 1, 4, none⟩) (by simp only [World.size_alloc]; omega)).trans (by simp [go_sem])
    have fz : ∀ o : Nat, w1.frozen? ⟨w.heap.size + 1 + 1, o, none⟩ = false := fun o => (hB.frozen (p := ⟨w.heap.size + 1 + 1, o, none⟩) (by simp only [World.size_alloc]; omega)).trans (by simp [go_sem])
    have hz : w.heap.size + 1 + 1 < w1.heap.size := by have := hB.size; simp only [World.size_alloc] at this; omega
    clear hB
    go_wp2_with fail
    refine (refusal_unfit p _ (HS.out.below K1.out.2.2)).mono ?_
    rintro e w2 ⟨rfl, hB⟩
    have K2 := Lib.hid (K1.out.next hB)
    have s0 := r0
    have s1 := r1
    have s2 := r2
    have s3 := r3
    have s4 := r4
    have sz := fz
    clear r0 r1 r2 r3 r4 fz
    have r0 : w2.cell? ⟨w.heap.size + 1 + 1, 0, none⟩ = some (.int .i16 0) := (hB.cell (p := ⟨w.heap.size + 1 + 1, 0, none⟩) (by omega)).trans (s0)
    have r1 : w2.cell? ⟨w.heap.size + 1 + 1, 1, none⟩ = some (.int .i16 0) := (hB.cell (p := ⟨w.heap.size + 1 + 1, 1, none⟩) (by omega)).trans (s1)
    have r2 : w2.cell? ⟨w.heap.size + 1 + 1, 2, none⟩ = some (.int .i8 0) := (hB.cell (p := ⟨w.heap.size + 1 + 1, 2, none⟩) (by omega)).trans (s2)
    have r3 : w2.cell? ⟨w.heap.size + 1 + 1, 3, none⟩ = some (.int .i8 0) := (hB.cell (p := ⟨w.heap.size + 1 + 1, 3, none⟩) (by omega)).trans (s3)
    have r4 : w2.cell? ⟨w.heap.size + 1 + 1, 4, none⟩ = some (.int .i8 0) := (hB.cell (p := ⟨w.heap.size + 1 + 1, 4, none⟩) (by omega)).trans (s4)
    have fz : ∀ o : Nat, w2.frozen? ⟨w.heap.size + 1 + 1, o, none⟩ = false := fun o => (hB.frozen (p := ⟨w.heap.size + 1 + 1, o, none⟩) (by omega)).trans (sz o)
    have hz2 : w.heap.size + 1 + 1 < w2.heap.size := by have := hB.size; omega
    clear hB
    obtain ⟨e0, e1, e2, e3, e4⟩ := res5 (.int .i16 0) (.int .i16 0) (.int .i8 0) (.int .i8 0) (.int .i8 0) r0 r1 r2 r3 r4
    go_wp2
    refine bodyPost_ret (by simp [results, Tryd.results19, go_sem, e0, e1, e2, e3, e4]; try rfl) rfl ?_
    refine ⟨rfl, ?_⟩
    go_grown
    exact K2.out.2.2
  | true =>
    rw [wasF_yes hok]
    obtain ⟨gx, gy, gd, gf, gh⟩ := okC_of (both_of hok).1
    obtain ⟨gt, gr, gc⟩ := okP_of (both_of hok).2
    have H3 := Lib.hid fun wx => washed_any x y d f h t r c wx gx gy gd gf gh gt gr gc
    rw [hok, if_pos rfl, refV_0] at H1
    clear hok gx gy gd gf gh gt gr gc
    generalize shr x (fel f h t r) = m1 at *
    generalize shr y (fel f h t r) = m2 at *
    generalize max 0 (d - c) = m3 at *
    generalize f + fel f h t r = m4 at *
    go_enter Tryd.func19, Tryd.ntmps19
    go_wp2_with fail
    refine H1.out.mono ?_
    rintro e w1 ⟨rfl, hB⟩
    have K1 := Lib.hid (K0.out.next hB)
    have r0 : w1.cell? ⟨w.heap.size + 1 + 1, 0, none⟩ = some (.int .i16 0) := (hB.cell (p := ⟨w.heap.size + 1 + 1, 0, none⟩) (by simp only [World.size_alloc]; omega)).trans (by simp [go_sem])
    have r1 : w1.cell? ⟨w.heap.size + 1 + 1, 1, none⟩ = some (.int .i16 0) := (hB.cell (p := ⟨w.heap.size + 1 + 1, 1, none⟩) (by simp only [World.size_alloc]; omega)).trans (by simp [go_sem])
    have r2 : w1.cell? ⟨w.heap.size + 1 + 1, 2, none⟩ = some (.int .i8 0) := (hB.cell (p := ⟨w.heap.size + 1 + 1, 2, none⟩) (by simp only [World.size_alloc]; omega)).trans (by simp [go_sem])
    have r3 : w1.cell? ⟨w.heap.size + 1 + 1, 3, none⟩ = some (.int .i8 0) := (hB.cell (p := ⟨w.heap.size + 1 + 1, 3, none⟩) (by simp only [World.size_alloc]; omega)).trans (by simp [go_sem])
    have r4 : w1.cell? ⟨w.heap.size + 1 + 1, 4, none⟩ = some (.int .i8 0) := (hB.cell (p := ⟨w.heap.size + 1 + 1, 4, none⟩) (by simp only [World.size_alloc]; omega)).trans (by simp [go_sem])
    have fz : ∀ o : Nat, w1.frozen? ⟨w.heap.size + 1 + 1, o, none⟩ = false := fun o => (hB.frozen (p := ⟨w.heap.size + 1 + 1, o, none⟩) (by simp only [World.size_alloc]; omega)).trans (by simp [go_sem])
    have hz : w.heap.size + 1 + 1 < w1.heap.size := by have := hB.size; simp only [World.size_alloc] at this; omega
    clear hB
    obtain ⟨⟨a0, a1, a2, a3, a4⟩, ⟨b0, b1, b2⟩, _⟩ := K1.out
    go_wp2_with fail
    refine (H3.out _).mono ?_
    rintro e w2 ⟨rfl, hB⟩
    have K2 := Lib.hid (K1.out.next hB)
    have s0 := r0
    have s1 := r1
    have s2 := r2
    have s3 := r3
    have s4 := r4
    have sz := fz
    clear r0 r1 r2 r3 r4 fz
    have r0 : w2.cell? ⟨w.heap.size + 1 + 1, 0, none⟩ = some (.int .i16 0) := (hB.cell (p := ⟨w.heap.size + 1 + 1, 0, none⟩) (by omega)).trans (s0)
    have r1 : w2.cell? ⟨w.heap.size + 1 + 1, 1, none⟩ = some (.int .i16 0) := (hB.cell (p := ⟨w.heap.size + 1 + 1, 1, none⟩) (by omega)).trans (s1)
    have r2 : w2.cell? ⟨w.heap.size + 1 + 1, 2, none⟩ = some (.int .i8 0) := (hB.cell (p := ⟨w.heap.size + 1 + 1, 2, none⟩) (by omega)).trans (s2)
    have r3 : w2.cell? ⟨w.heap.size + 1 + 1, 3, none⟩ = some (.int .i8 0) := (hB.cell (p := ⟨w.heap.size + 1 + 1, 3, none⟩) (by omega)).trans (s3)
    have r4 : w2.cell? ⟨w.heap.size + 1 + 1, 4, none⟩ = some (.int .i8 0) := (hB.cell (p := ⟨w.heap.size + 1 + 1, 4, none⟩) (by omega)).trans (s4)
    have fz : ∀ o : Nat, w2.frozen? ⟨w.heap.size + 1 + 1, o, none⟩ = false := fun o => (hB.frozen (p := ⟨w.heap.size + 1 + 1, o, none⟩) (by omega)).trans (sz o)
    have hz2 : w.heap.size + 1 + 1 < w2.heap.size := by have := hB.size; omega
    clear hB a0 a1 a2 a3 a4 b0 b1 b2
    obtain ⟨e0, e1, e2, e3, e4⟩ := res5 (.int .i16 m1) (.int .i16 m2) (.int .i8 m3) (.int .i8 m4) (.int .i8 h) r0 r1 r2 r3 r4
    go_wp2
    refine bodyPost_ret (by simp [results, Tryd.results19, go_sem, e0, e1, e2, e3, e4]; try rfl) rfl ?_
    refine ⟨rfl, ?_⟩
    go_grown
    exact K2.out.2.2

end Go.Proofs.YtlmdojofjdfeeaaDoor
