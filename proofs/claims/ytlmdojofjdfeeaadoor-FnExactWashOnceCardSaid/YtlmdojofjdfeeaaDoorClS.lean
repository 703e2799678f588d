/-
  No statement is proved here: cloths and programs in the document's own text and in the laws; conditions as stated.
-/
import Derived.Test.YtlmdojofjdfeeaaDoorClM
import Derived.StillTailTactics
namespace Go.Proofs.YtlmdojofjdfeeaaDoor
open Go.ChangeShapes Go.WideShapes Go.ChangeAt Go.RowKit

/-- A cloth, a program in a block. -/
def CBox (w : World) (b : Nat) (x y d f h : Int) : Prop :=
  w.cell? ⟨b, 0, none⟩ = some (.int .i16 x) ∧ w.cell? ⟨b, 1, none⟩ = some (.int .i16 y) ∧ w.cell? ⟨b, 2, none⟩ = some (.int .i8 d) ∧ w.cell? ⟨b, 3, none⟩ = some (.int .i8 f) ∧ w.cell? ⟨b, 4, none⟩ = some (.int .i8 h)
def PBox (w : World) (b o : Nat) (t r c : Int) : Prop :=
  w.cell? ⟨b, o, none⟩ = some (.int .i8 t) ∧ w.cell? ⟨b, o + 1, none⟩ = some (.int .i8 r) ∧ w.cell? ⟨b, o + 2, none⟩ = some (.int .i8 c)
theorem CBox.below {w w' : World} {b : Nat} {x y d f h : Int} (H : CBox w b x y d f h) (hB : Below w.heap.size w w') : CBox w' b x y d f h :=
  ⟨kept hB (World.block_lt_of_cell? w _ H.1) H.1, kept hB (World.block_lt_of_cell? w _ H.1) H.2.1, kept hB (World.block_lt_of_cell? w _ H.1) H.2.2.1, kept hB (World.block_lt_of_cell? w _ H.1) H.2.2.2.1, kept hB (World.block_lt_of_cell? w _ H.1) H.2.2.2.2⟩
theorem PBox.below {w w' : World} {b o : Nat} {t r c : Int} (H : PBox w b o t r c) (hB : Below w.heap.size w w') : PBox w' b o t r c :=
  ⟨kept hB (World.block_lt_of_cell? w _ H.1) H.1, kept hB (World.block_lt_of_cell? w _ H.1) H.2.1, kept hB (World.block_lt_of_cell? w _ H.1) H.2.2⟩

theorem nine_any (n : Int) (w : World) (h : Is8 n) :
    Calls Tryd.prog 50 #[.int .i8 n] w fun e w' => e = .returned (.bool (inB n 0 9)) ∧ w = w' := by
  obtain ⟨h1, h2⟩ := h
  by_cases h0 : 0 ≤ n
  · by_cases h9 : n ≤ 9
    · rw [inB_mk ⟨h0, h9⟩]
      go_enter Tryd.func50, Tryd.ntmps50
      go_wp2
      go_ret
      exact ⟨rfl, rfl⟩
    · rw [inB_mkno (.inr (by omega))]
      go_enter Tryd.func50, Tryd.ntmps50
      go_wp2
      go_ret
      exact ⟨rfl, rfl⟩
  · rw [inB_mkno (.inl (by omega))]
    go_enter Tryd.func50, Tryd.ntmps50
    go_wp2
    go_ret
    exact ⟨rfl, rfl⟩

set_option maxHeartbeats 1000000 in
theorem l06Ok_any (b : Nat) (x y d f h : Int) (w : World) (hd : Is8 d) (hf : Is8 f) (hh : Is8 h) (hx : IsS x) (hy : IsS y) (hb : CBox w b x y d f h) :
    Calls Tryd.prog 35 #[.pointer (some ⟨b, 0, none⟩)] w fun e w' => e = .returned (.bool (okC x y d f h)) ∧ w = w' := by
  have H1 := Lib.hid fun wx => in_any x 1 1000 wx
  have H2 := Lib.hid fun wx => in_any y 1 1000 wx
  have H3 := Lib.hid fun wx => nine_any d wx hd
  have H4 := Lib.hid fun wx => nine_any f wx hf
  have H5 := Lib.hid fun wx => nine_any h wx hh
  unfold okC
  generalize inB x 1 1000 = b1 at *
  generalize inB y 1 1000 = b2 at *
  generalize inB d 0 9 = b3 at *
  generalize inB f 0 9 = b4 at *
  generalize inB h 0 9 = b5 at *
  obtain ⟨c0, c1, c2, c3, c4⟩ := hb
  obtain ⟨x1, x2⟩ := hx
  obtain ⟨y1, y2⟩ := hy
  clear hd hf hh
  cases b1 with
  | false =>
    simp only [Bool.false_and]
    go_enter Tryd.func35, Tryd.ntmps35
    go_wp2_with fail
    refine (H1.out _).mono ?_
    rintro e w' ⟨rfl, rfl⟩
    go_wp2
    go_ret
    exact ⟨rfl, rfl⟩
  | true =>
    cases b2 with
    | false =>
      simp only [Bool.true_and, Bool.false_and]
      go_enter Tryd.func35, Tryd.ntmps35
      go_wp2_with fail
      refine (H1.out _).mono ?_
      rintro e w' ⟨rfl, rfl⟩
      go_wp2_with fail
      refine (H2.out _).mono ?_
      rintro e w' ⟨rfl, rfl⟩
      go_wp2
      go_ret
      exact ⟨rfl, rfl⟩
    | true =>
      cases b3 with
      | false =>
        simp only [Bool.true_and, Bool.false_and]
        go_enter Tryd.func35, Tryd.ntmps35
        go_wp2_with fail
        refine (H1.out _).mono ?_
        rintro e w' ⟨rfl, rfl⟩
        go_wp2_with fail
        refine (H2.out _).mono ?_
        rintro e w' ⟨rfl, rfl⟩
        go_wp2_with fail
        refine (H3.out _).mono ?_
        rintro e w' ⟨rfl, rfl⟩
        go_wp2
        go_ret
        exact ⟨rfl, rfl⟩
      | true =>
        cases b4 with
        | false =>
          simp only [Bool.true_and, Bool.false_and]
          go_enter Tryd.func35, Tryd.ntmps35
          go_wp2_with fail
          refine (H1.out _).mono ?_
          rintro e w' ⟨rfl, rfl⟩
          go_wp2_with fail
          refine (H2.out _).mono ?_
          rintro e w' ⟨rfl, rfl⟩
          go_wp2_with fail
          refine (H3.out _).mono ?_
          rintro e w' ⟨rfl, rfl⟩
          go_wp2_with fail
          refine (H4.out _).mono ?_
          rintro e w' ⟨rfl, rfl⟩
          go_wp2
          go_ret
          exact ⟨rfl, rfl⟩
        | true =>
          simp only [Bool.true_and]
          go_enter Tryd.func35, Tryd.ntmps35
          go_wp2_with fail
          refine (H1.out _).mono ?_
          rintro e w' ⟨rfl, rfl⟩
          go_wp2_with fail
          refine (H2.out _).mono ?_
          rintro e w' ⟨rfl, rfl⟩
          go_wp2_with fail
          refine (H3.out _).mono ?_
          rintro e w' ⟨rfl, rfl⟩
          go_wp2_with fail
          refine (H4.out _).mono ?_
          rintro e w' ⟨rfl, rfl⟩
          go_wp2_with fail
          refine (H5.out _).mono ?_
          rintro e w' ⟨rfl, rfl⟩
          go_wp2
          go_ret
          exact ⟨rfl, rfl⟩

set_option maxHeartbeats 1000000 in
theorem l06Program_any (b o : Nat) (t r c : Int) (w : World) (ht : Is8 t) (hr : Is8 r) (hc : Is8 c) (hb : PBox w b o t r c) :
    Calls Tryd.prog 38 #[.pointer (some ⟨b, o, none⟩)] w fun e w' => e = .returned (.bool (okP t r c)) ∧ w = w' := by
  have H1 := Lib.hid fun wx => nine_any t wx ht
  have H2 := Lib.hid fun wx => nine_any r wx hr
  have H3 := Lib.hid fun wx => nine_any c wx hc
  unfold okP
  generalize inB t 0 9 = b1 at *
  generalize inB r 0 9 = b2 at *
  generalize inB c 0 9 = b3 at *
  obtain ⟨c0, c1, c2⟩ := hb
  clear ht hr hc
  cases b1 with
  | false =>
    simp only [Bool.false_and]
    go_enter Tryd.func38, Tryd.ntmps38
    go_wp2_with fail
    refine (H1.out _).mono ?_
    rintro e w' ⟨rfl, rfl⟩
    go_wp2
    go_ret
    exact ⟨rfl, rfl⟩
  | true =>
    cases b2 with
    | false =>
      simp only [Bool.true_and, Bool.false_and]
      go_enter Tryd.func38, Tryd.ntmps38
      go_wp2_with fail
      refine (H1.out _).mono ?_
      rintro e w' ⟨rfl, rfl⟩
      go_wp2_with fail
      refine (H2.out _).mono ?_
      rintro e w' ⟨rfl, rfl⟩
      go_wp2
      go_ret
      exact ⟨rfl, rfl⟩
    | true =>
      simp only [Bool.true_and]
      go_enter Tryd.func38, Tryd.ntmps38
      go_wp2_with fail
      refine (H1.out _).mono ?_
      rintro e w' ⟨rfl, rfl⟩
      go_wp2_with fail
      refine (H2.out _).mono ?_
      rintro e w' ⟨rfl, rfl⟩
      go_wp2_with fail
      refine (H3.out _).mono ?_
      rintro e w' ⟨rfl, rfl⟩
      go_wp2
      go_ret
      exact ⟨rfl, rfl⟩

theorem cbox_made (w : World) (T : TypeId) (x y d f h : Int) : CBox (w.alloc (.cells #[.int .i16 x, .int .i16 y, .int .i8 d, .int .i8 f, .int .i8 h] T)) w.heap.size x y d f h := ⟨by simp [go_sem], by simp [go_sem], by simp [go_sem], by simp [go_sem], by simp [go_sem]⟩
theorem pbox_made (w : World) (T : TypeId) (t r c : Int) : PBox (w.alloc (.cells #[.int .i8 t, .int .i8 r, .int .i8 c] T)) w.heap.size 0 t r c := ⟨by simp [go_sem], by simp [go_sem], by simp [go_sem]⟩

theorem specValidCloth_any (x y d f h : Int) (w : World) (hx : IsS x) (hy : IsS y) (hd : Is8 d) (hf : Is8 f) (hh : Is8 h) :
    Calls Tryd.prog 10 #[.agg #[.int .i16 x, .int .i16 y, .int .i8 d, .int .i8 f, .int .i8 h]] w fun e w' => e = .returned (.bool (okC x y d f h)) ∧ Below w.heap.size w w' := by
  have H := Lib.hid (l06Ok_any w.heap.size x y d f h _ hd hf hh hx hy (cbox_made w 27 x y d f h))
  clear hx hy hd hf hh
  go_enter Tryd.func10, Tryd.ntmps10
  go_wp2_with fail
  refine (H.out).mono ?_
  rintro e w' ⟨rfl, rfl⟩
  go_wp2
  go_ret
  exact ⟨rfl, by go_grown⟩

theorem specValidProgram_any (t r c : Int) (w : World) (ht : Is8 t) (hr : Is8 r) (hc : Is8 c) :
    Calls Tryd.prog 13 #[.agg #[.int .i8 t, .int .i8 r, .int .i8 c]] w fun e w' => e = .returned (.bool (okP t r c)) ∧ Below w.heap.size w w' := by
  have H := Lib.hid (l06Program_any w.heap.size 0 t r c _ ht hr hc (pbox_made w 33 t r c))
  clear ht hr hc
  go_enter Tryd.func13, Tryd.ntmps13
  go_wp2_with fail
  refine (H.out).mono ?_
  rintro e w' ⟨rfl, rfl⟩
  go_wp2
  go_ret
  exact ⟨rfl, by go_grown⟩

set_option maxHeartbeats 1000000 in
theorem toCloth_any (x y d f h : Int) (w : World) :
    Calls Tryd.prog 11 #[.agg #[.int .i16 x, .int .i16 y, .int .i8 d, .int .i8 f, .int .i8 h]] w fun e w' => e = .returned (.agg #[.int .i16 x, .int .i16 y, .int .i8 d, .int .i8 f, .int .i8 h]) ∧ Below w.heap.size w w' := by
  go_enter Tryd.func11, Tryd.ntmps11
  go_wp2
  go_returns
  exact ⟨rfl, by go_grown⟩

set_option maxHeartbeats 1000000 in
theorem toProgram_any (t r c : Int) (w : World) :
    Calls Tryd.prog 14 #[.agg #[.int .i8 t, .int .i8 r, .int .i8 c]] w fun e w' => e = .returned (.agg #[.int .i8 t, .int .i8 r, .int .i8 c]) ∧ Below w.heap.size w w' := by
  go_enter Tryd.func14, Tryd.ntmps14
  go_wp2
  go_returns
  exact ⟨rfl, by go_grown⟩

set_option maxHeartbeats 1000000 in
theorem eqCloth_same (x y d f h : Int) (w : World) :
    Calls Tryd.prog 20 #[.agg #[.int .i16 x, .int .i16 y, .int .i8 d, .int .i8 f, .int .i8 h], .agg #[.int .i16 x, .int .i16 y, .int .i8 d, .int .i8 f, .int .i8 h]] w fun e w' => e = .returned (.bool true) ∧ Below w.heap.size w w' := by
  have e1 : (x != x) = false := by simp
  have e2 : (y != y) = false := by simp
  have e3 : (d != d) = false := by simp
  have e4 : (f != f) = false := by simp
  have e5 : (h != h) = false := by simp
  go_enter Tryd.func20, Tryd.ntmps20
  go_wp2
  go_ret
  exact ⟨rfl, by go_grown⟩

set_option maxRecDepth 100000 in
theorem openCloth {w : World} {base : Nat} {v : Value} (o : Value.okWide Tryd.prog w .any base 25 v) : ∃ x y d f h : Int, v = .agg #[.int .i16 x, .int .i16 y, .int .i8 d, .int .i8 f, .int .i8 h] ∧ IsS x ∧ IsS y ∧ Is8 d ∧ Is8 f ∧ Is8 h := by
  obtain ⟨vs, rfl, hc⟩ := open_cells o (by kernel_rfl) (ts := [22, 22, 23, 23, 23]) (ks := [.i16, .i16, .i8, .i8, .i8]) (by kernel_rfl) (by kernel_rfl) (by kernel_rfl)
  obtain ⟨x, _, rfl, hx, y, _, rfl, hy, d, _, rfl, hd, f, _, rfl, hf, h, _, rfl, hh, rfl⟩ := hc
  exact ⟨x, y, d, f, h, rfl, hx, hy, hd, hf, hh⟩
set_option maxRecDepth 100000 in
theorem openProgram {w : World} {base : Nat} {v : Value} (o : Value.okWide Tryd.prog w .any base 31 v) : ∃ t r c : Int, v = .agg #[.int .i8 t, .int .i8 r, .int .i8 c] ∧ Is8 t ∧ Is8 r ∧ Is8 c := by
  obtain ⟨vs, rfl, hc⟩ := open_cells o (by kernel_rfl) (ts := [23, 23, 23]) (ks := [.i8, .i8, .i8]) (by kernel_rfl) (by kernel_rfl) (by kernel_rfl)
  obtain ⟨x, _, rfl, hx, y, _, rfl, hy, d, _, rfl, hd, rfl⟩ := hc
  exact ⟨x, y, d, rfl, hx, hy, hd⟩
end Go.Proofs.YtlmdojofjdfeeaaDoor
