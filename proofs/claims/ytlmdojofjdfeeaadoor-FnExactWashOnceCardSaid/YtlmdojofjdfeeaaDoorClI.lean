/-
  No statement is proved here: which cloths and programs the program takes for valid; condition: its errors lie where its text lays them.
-/
import Derived.Test.YtlmdojofjdfeeaaDoorClS
import Derived.Test.YtlmdojofjdfeeaaDoorWithin3
namespace Go.Proofs.YtlmdojofjdfeeaaDoor
open Go.ChangeShapes Go.WideShapes Go.ChangeAt Go.RowKit

theorem degree_any (n : Int) (w : World) (h : Is8 n) :
    Calls Tryd.prog 37 #[.int .i8 n] w fun e w' => e = .returned (.agg #[.int .i64 n, .int .i64 0, .int .i64 9]) ∧ Below w.heap.size w w' := by
  obtain ⟨h1, h2⟩ := h
  go_enter Tryd.func37, Tryd.ntmps37
  go_wp2
  go_returns
  exact ⟨rfl, by go_grown⟩

theorem eqlNil_err (a : Addr) (w : World) : (binOp .eql 65 (errAt a) .nilIface).run Tryd.prog w = .ok (.bool false) w := by kernel_rfl
theorem eqlNil_nil (w : World) : (binOp .eql 65 .nilIface .nilIface).run Tryd.prog w = .ok (.bool true) w := by kernel_rfl
def eqNilB (r : Bool) : Value := .bool r
theorem eqlNil_in (p : Nat → Addr) (r : Bool) (w : World) : (binOp .eql 65 (errIn p r) .nilIface).run Tryd.prog w = .ok (.bool r) w := by
  cases r with
  | true => exact eqlNil_nil w
  | false => exact eqlNil_err _ w
def five {α : Type} (a b c d e : α) : Nat → α
  | 0 => a
  | 1 => b
  | 2 => c
  | 3 => d
  | _ => e
def thr {α : Type} (a b c : α) : Nat → α
  | 0 => a
  | 1 => b
  | _ => c
/-- n is asked to lie from lo to hi. -/
abbrev ask (n lo hi : Int) : Value := .iface 63 (.agg #[.int .i64 n, .int .i64 lo, .int .i64 hi])
theorem check5_any (p : Nat → Addr) (b cap : Nat) (x y d f h : Int) (w : World) (hs : Sent3 w p)
    (c0 : w.cell? ⟨b, 0, none⟩ = some (ask x 1 1000)) (c1 : w.cell? ⟨b, 1, none⟩ = some (ask y 1 1000)) (c2 : w.cell? ⟨b, 2, none⟩ = some (ask d 0 9)) (c3 : w.cell? ⟨b, 3, none⟩ = some (ask f 0 9)) (c4 : w.cell? ⟨b, 4, none⟩ = some (ask h 0 9)) :
    Calls Tryd.prog 36 #[.slice (some ⟨b, 0, none⟩) 5 cap] w fun e w' => e = .returned (errIn p (okC x y d f h)) ∧ Below w.heap.size w w' := by
  refine (checkW3_any p b 5 cap (five x y d f h) (five 1 1 0 0 0) (five 1000 1000 9 9 9) w hs (by omega) (by omega) (World.block_lt_of_cell? w _ c0) (fun j hj => ?_)).mono fun e w' ⟨he, hw⟩ => ⟨?_, hw⟩
  · match j, hj with
    | 0, _ => exact c0
    | 1, _ => exact c1
    | 2, _ => exact c2
    | 3, _ => exact c3
    | 4, _ => exact c4
  · rw [he]; simp [allTo, five, okC]
theorem check3_any (p : Nat → Addr) (b cap : Nat) (t r c : Int) (w : World) (hs : Sent3 w p)
    (c0 : w.cell? ⟨b, 0, none⟩ = some (ask t 0 9)) (c1 : w.cell? ⟨b, 1, none⟩ = some (ask r 0 9)) (c2 : w.cell? ⟨b, 2, none⟩ = some (ask c 0 9)) :
    Calls Tryd.prog 36 #[.slice (some ⟨b, 0, none⟩) 3 cap] w fun e w' => e = .returned (errIn p (okP t r c)) ∧ Below w.heap.size w w' := by
  refine (checkW3_any p b 3 cap (thr t r c) (thr 0 0 0) (thr 9 9 9) w hs (by omega) (by omega) (World.block_lt_of_cell? w _ c0) (fun j hj => ?_)).mono fun e w' ⟨he, hw⟩ => ⟨?_, hw⟩
  · match j, hj with
    | 0, _ => exact c0
    | 1, _ => exact c1
    | 2, _ => exact c2
  · rw [he]; simp [allTo, thr, okP]

/-- A program's box, and all that was there is as it was. -/
def HP (w w' : World) (t r c : Int) : Prop :=
  w'.cell? ⟨w.heap.size, 0, none⟩ = some (.int .i8 t) ∧ w'.cell? ⟨w.heap.size, 1, none⟩ = some (.int .i8 r) ∧ w'.cell? ⟨w.heap.size, 2, none⟩ = some (.int .i8 c) ∧ Below w.heap.size w w' ∧ w.heap.size < w'.heap.size
theorem HP.next {w w1 w2 : World} {t r c : Int} (h : HP w w1 t r c) (hB : Below w1.heap.size w1 w2) : HP w w2 t r c :=
  ⟨kept hB h.2.2.2.2 h.1, kept hB h.2.2.2.2 h.2.1, kept hB h.2.2.2.2 h.2.2.1, h.2.2.2.1.trans (hB.mono (by have := h.2.2.2.2; omega)), Nat.lt_of_lt_of_le h.2.2.2.2 hB.size⟩
theorem HP.made (w : World) (t r c : Int) (T : TypeId) : HP w (w.alloc (.cells #[.int .i8 t, .int .i8 r, .int .i8 c] T)) t r c :=
  ⟨by simp [go_sem], by simp [go_sem], by simp [go_sem], (Below.refl _ _).alloc (Nat.le_refl _) _, by simp⟩
theorem HP.alloc {w w1 : World} {t r c : Int} (h : HP w w1 t r c) (o : Obj) : HP w (w1.alloc o) t r c := h.next ((Below.refl _ _).alloc (Nat.le_refl _) _)
theorem HP.bel {w w1 : World} {t r c : Int} (h : HP w w1 t r c) : Below w.heap.size w w1 := h.2.2.2.1
theorem HP.id {w w' : World} {t r c : Int} (h : w'.cell? ⟨w.heap.size, 0, none⟩ = some (.int .i8 t) ∧ w'.cell? ⟨w.heap.size, 1, none⟩ = some (.int .i8 r) ∧ w'.cell? ⟨w.heap.size, 2, none⟩ = some (.int .i8 c) ∧ Below w.heap.size w w' ∧ w.heap.size < w'.heap.size) : HP w w' t r c := h
theorem HP.drew {w w1 : World} {t r c : Int} (h : HP w w1 t r c) : HP w w1.drew t r c := ⟨h.1, h.2.1, h.2.2.1, h.2.2.2.1.drew, h.2.2.2.2⟩

set_option maxRecDepth 100000 in
set_option maxHeartbeats 4000000 in
theorem validProgram_any (p : Nat → Addr) (t r c : Int) (w : World) (hs : Sent3 w p) (ht : Is8 t) (hr : Is8 r) (hc : Is8 c) :
    Calls Tryd.prog 15 #[.agg #[.int .i8 t, .int .i8 r, .int .i8 c]] w fun e w' => e = .returned (.bool (okP t r c)) ∧ Below w.heap.size w w' := by
  have HS := Lib.hid hs
  have D1 := Lib.hid fun wx => degree_any t wx ht
  have D2 := Lib.hid fun wx => degree_any r wx hr
  have D3 := Lib.hid fun wx => degree_any c wx hc
  have C := Lib.hid fun b cap wx hx h0 h1 h2 => check3_any p b cap t r c wx hx h0 h1 h2
  have H0 := Lib.hid (HP.made w t r c 33)
  generalize okP t r c = q at *
  clear hs ht hr hc
  cases q with
  | true =>
    rw [errIn_yes] at C
    have q1 := eqlNil_nil
    go_enter Tryd.func15, Tryd.ntmps15
    go_wp2_with fail
    go_region_held3 (fun w' => w'.cell? ⟨w.heap.size, 0, none⟩ = some (.int .i8 t) ∧ w'.cell? ⟨w.heap.size, 1, none⟩ = some (.int .i8 r) ∧ w'.cell? ⟨w.heap.size, 2, none⟩ = some (.int .i8 c) ∧ Below w.heap.size w w' ∧ w.heap.size < w'.heap.size)
      (first | assumption | exact H0.out.drew | (refine HP.next ?_ hB; assumption) | (refine HP.alloc ?_ _; assumption))
      (first
        | (go_at_call_of 37 (Value.int .i8 t); refine (D1.out _).mono ?_; rintro e w' ⟨rfl, hB⟩)
        | (go_at_call_of 37 (Value.int .i8 r); refine (D2.out _).mono ?_; rintro e w' ⟨rfl, hB⟩)
        | (go_at_call_of 37 (Value.int .i8 c); refine (D3.out _).mono ?_; rintro e w' ⟨rfl, hB⟩)
        | (go_at_call 36; refine (C.out _ _ _ (HS.out.below (HP.bel (by assumption))) (by simp [go_sem]) (by simp [go_sem]) (by simp [go_sem])).mono ?_; rintro e w' ⟨rfl, hB⟩))
    have HE := Lib.hid (HP.id (w := w) (t := t) (r := r) (c := c) (by assumption)).bel
    go_wp2
    go_ret
    exact ⟨rfl, HE.out⟩
  | false =>
    rw [errIn_no] at C
    have q1 := eqlNil_err (p 1)
    go_enter Tryd.func15, Tryd.ntmps15
    go_wp2_with fail
    go_region_held3 (fun w' => w'.cell? ⟨w.heap.size, 0, none⟩ = some (.int .i8 t) ∧ w'.cell? ⟨w.heap.size, 1, none⟩ = some (.int .i8 r) ∧ w'.cell? ⟨w.heap.size, 2, none⟩ = some (.int .i8 c) ∧ Below w.heap.size w w' ∧ w.heap.size < w'.heap.size)
      (first | assumption | exact H0.out.drew | (refine HP.next ?_ hB; assumption) | (refine HP.alloc ?_ _; assumption))
      (first
        | (go_at_call_of 37 (Value.int .i8 t); refine (D1.out _).mono ?_; rintro e w' ⟨rfl, hB⟩)
        | (go_at_call_of 37 (Value.int .i8 r); refine (D2.out _).mono ?_; rintro e w' ⟨rfl, hB⟩)
        | (go_at_call_of 37 (Value.int .i8 c); refine (D3.out _).mono ?_; rintro e w' ⟨rfl, hB⟩)
        | (go_at_call 36; refine (C.out _ _ _ (HS.out.below (HP.bel (by assumption))) (by simp [go_sem]) (by simp [go_sem]) (by simp [go_sem])).mono ?_; rintro e w' ⟨rfl, hB⟩))
    have HE := Lib.hid (HP.id (w := w) (t := t) (r := r) (c := c) (by assumption)).bel
    go_wp2
    go_ret
    exact ⟨rfl, HE.out⟩

/-- Behind the two asked sides: the cloth's box and theirs. -/
def HV (w w' : World) (x y d f h : Int) (B3 B4 : Nat) : Prop := w'.cell? ⟨w.heap.size, 2, none⟩ = some (.int .i8 d) ∧ w'.cell? ⟨w.heap.size, 3, none⟩ = some (.int .i8 f) ∧ w'.cell? ⟨w.heap.size, 4, none⟩ = some (.int .i8 h) ∧ w'.cell? ⟨B3, 0, none⟩ = some (.int .i64 x) ∧ w'.cell? ⟨B3, 1, none⟩ = some (.int .i64 1) ∧ w'.cell? ⟨B3, 2, none⟩ = some (.int .i64 1000) ∧ w'.cell? ⟨B4, 0, none⟩ = some (.int .i64 y) ∧ w'.cell? ⟨B4, 1, none⟩ = some (.int .i64 1) ∧ w'.cell? ⟨B4, 2, none⟩ = some (.int .i64 1000) ∧ Below w.heap.size w w'
theorem HV.id {w w' : World} {x y d f h : Int} {B3 B4 : Nat} (H : w'.cell? ⟨w.heap.size, 2, none⟩ = some (.int .i8 d) ∧ w'.cell? ⟨w.heap.size, 3, none⟩ = some (.int .i8 f) ∧ w'.cell? ⟨w.heap.size, 4, none⟩ = some (.int .i8 h) ∧ w'.cell? ⟨B3, 0, none⟩ = some (.int .i64 x) ∧ w'.cell? ⟨B3, 1, none⟩ = some (.int .i64 1) ∧ w'.cell? ⟨B3, 2, none⟩ = some (.int .i64 1000) ∧ w'.cell? ⟨B4, 0, none⟩ = some (.int .i64 y) ∧ w'.cell? ⟨B4, 1, none⟩ = some (.int .i64 1) ∧ w'.cell? ⟨B4, 2, none⟩ = some (.int .i64 1000) ∧ Below w.heap.size w w') : HV w w' x y d f h B3 B4 := H
theorem HV.bel {w w' : World} {x y d f h : Int} {B3 B4 : Nat} (H : HV w w' x y d f h B3 B4) : Below w.heap.size w w' := H.2.2.2.2.2.2.2.2.2
theorem HV.next {w w1 w2 : World} {x y d f h : Int} {B3 B4 : Nat} (H : HV w w1 x y d f h B3 B4) (hB : Below w1.heap.size w1 w2) : HV w w2 x y d f h B3 B4 := by
  obtain ⟨a1, a2, a3, a4, a5, a6, a7, a8, a9, a10⟩ := H
  have k : ∀ {b o : Nat} {v : Value}, w1.cell? ⟨b, o, none⟩ = some v → w2.cell? ⟨b, o, none⟩ = some v := fun hc => kept hB (World.block_lt_of_cell? w1 _ hc) hc
  exact ⟨k a1, k a2, k a3, k a4, k a5, k a6, k a7, k a8, k a9, a10.trans (hB.mono a10.size)⟩
theorem HV.alloc {w w1 : World} {x y d f h : Int} {B3 B4 : Nat} (H : HV w w1 x y d f h B3 B4) (o : Obj) : HV w (w1.alloc o) x y d f h B3 B4 := H.next ((Below.refl _ _).alloc (Nat.le_refl _) _)
theorem HV.drew {w w1 : World} {x y d f h : Int} {B3 B4 : Nat} (H : HV w w1 x y d f h B3 B4) : HV w w1.drew x y d f h B3 B4 := H.next ((Below.refl _ _).drew)
theorem HV.made1 (w : World) (x y d f h : Int) (T U : TypeId) : HV w (((w.alloc (.cells #[.int .i16 x, .int .i16 y, .int .i8 d, .int .i8 f, .int .i8 h] T)).alloc (.cells #[.int .i64 x, .int .i64 1, .int .i64 1000] U)).alloc (.cells #[.int .i64 y, .int .i64 1, .int .i64 1000] U)).drew x y d f h (w.heap.size + 1) (w.heap.size + 1 + 1) :=
  HV.drew ⟨by simp [go_sem], by simp [go_sem], by simp [go_sem], by simp [go_sem], by simp [go_sem], by simp [go_sem], by simp [go_sem], by simp [go_sem], by simp [go_sem], by go_grown⟩
theorem HV.made2 (w : World) (x y d f h : Int) (T U : TypeId) : HV w (((w.alloc (.cells #[.int .i16 x, .int .i16 y, .int .i8 d, .int .i8 f, .int .i8 h] T)).alloc (.cells #[.int .i64 y, .int .i64 1, .int .i64 1000] U)).alloc (.cells #[.int .i64 x, .int .i64 1, .int .i64 1000] U)).drew x y d f h (w.heap.size + 1 + 1) (w.heap.size + 1) :=
  HV.drew ⟨by simp [go_sem], by simp [go_sem], by simp [go_sem], by simp [go_sem], by simp [go_sem], by simp [go_sem], by simp [go_sem], by simp [go_sem], by simp [go_sem], by go_grown⟩

set_option maxRecDepth 100000 in
set_option maxHeartbeats 4000000 in
theorem validCloth_any (p : Nat → Addr) (x y d f h : Int) (w : World) (hs : Sent3 w p) (hx : IsS x) (hy : IsS y) (hd : Is8 d) (hf : Is8 f) (hh : Is8 h) :
    Calls Tryd.prog 12 #[.agg #[.int .i16 x, .int .i16 y, .int .i8 d, .int .i8 f, .int .i8 h]] w fun e w' => e = .returned (.bool (okC x y d f h)) ∧ Below w.heap.size w w' := by
  have HS := Lib.hid hs
  have D1 := Lib.hid fun wx => degree_any d wx hd
  have D2 := Lib.hid fun wx => degree_any f wx hf
  have D3 := Lib.hid fun wx => degree_any h wx hh
  have C := Lib.hid fun b cap wx hx h0 h1 h2 h3 h4 => check5_any p b cap x y d f h wx hx h0 h1 h2 h3 h4
  generalize okC x y d f h = q at *
  obtain ⟨x1, x2⟩ := hx
  obtain ⟨y1, y2⟩ := hy
  clear hs hd hf hh
  cases q with
  | true =>
    rw [errIn_yes] at C
    have q1 := eqlNil_nil
    go_enter Tryd.func12, Tryd.ntmps12
    go_wp2_with fail
    go_region
    · have H0 := Lib.hid (HV.made1 w x y d f h 27 63)
      go_wp2_with fail
      go_region_held3 (fun w' => w'.cell? ⟨w.heap.size, 2, none⟩ = some (.int .i8 d) ∧ w'.cell? ⟨w.heap.size, 3, none⟩ = some (.int .i8 f) ∧ w'.cell? ⟨w.heap.size, 4, none⟩ = some (.int .i8 h) ∧ w'.cell? ⟨w.heap.size + 1, 0, none⟩ = some (.int .i64 x) ∧ w'.cell? ⟨w.heap.size + 1, 1, none⟩ = some (.int .i64 1) ∧ w'.cell? ⟨w.heap.size + 1, 2, none⟩ = some (.int .i64 1000) ∧ w'.cell? ⟨w.heap.size + 1 + 1, 0, none⟩ = some (.int .i64 y) ∧ w'.cell? ⟨w.heap.size + 1 + 1, 1, none⟩ = some (.int .i64 1) ∧ w'.cell? ⟨w.heap.size + 1 + 1, 2, none⟩ = some (.int .i64 1000) ∧ Below w.heap.size w w')
        (first | assumption | exact H0.out | exact H0.out.drew | (refine HV.next ?_ hB; assumption) | (refine HV.alloc ?_ _; assumption))
        (first
      | (go_at_call_of 37 (Value.int .i8 d); refine (D1.out _).mono ?_; rintro e w' ⟨rfl, hB⟩)
      | (go_at_call_of 37 (Value.int .i8 f); refine (D2.out _).mono ?_; rintro e w' ⟨rfl, hB⟩)
      | (go_at_call_of 37 (Value.int .i8 h); refine (D3.out _).mono ?_; rintro e w' ⟨rfl, hB⟩)
      | (go_at_call 36; refine (C.out _ _ _ (HS.out.below (HV.bel (by assumption))) (by simp [go_sem]) (by simp [go_sem]) (by simp [go_sem]) (by simp [go_sem]) (by simp [go_sem])).mono ?_; rintro e w' ⟨rfl, hB⟩))
      have HE := Lib.hid (HV.id (w := w) (x := x) (y := y) (d := d) (f := f) (h := h) (B3 := w.heap.size + 1) (B4 := w.heap.size + 1 + 1) (by assumption)).bel
      go_wp2
      go_ret
      exact ⟨rfl, HE.out⟩
    · have H0 := Lib.hid (HV.made2 w x y d f h 27 63)
      go_wp2_with fail
      go_region_held3 (fun w' => w'.cell? ⟨w.heap.size, 2, none⟩ = some (.int .i8 d) ∧ w'.cell? ⟨w.heap.size, 3, none⟩ = some (.int .i8 f) ∧ w'.cell? ⟨w.heap.size, 4, none⟩ = some (.int .i8 h) ∧ w'.cell? ⟨w.heap.size + 1 + 1, 0, none⟩ = some (.int .i64 x) ∧ w'.cell? ⟨w.heap.size + 1 + 1, 1, none⟩ = some (.int .i64 1) ∧ w'.cell? ⟨w.heap.size + 1 + 1, 2, none⟩ = some (.int .i64 1000) ∧ w'.cell? ⟨w.heap.size + 1, 0, none⟩ = some (.int .i64 y) ∧ w'.cell? ⟨w.heap.size + 1, 1, none⟩ = some (.int .i64 1) ∧ w'.cell? ⟨w.heap.size + 1, 2, none⟩ = some (.int .i64 1000) ∧ Below w.heap.size w w')
        (first | assumption | exact H0.out | exact H0.out.drew | (refine HV.next ?_ hB; assumption) | (refine HV.alloc ?_ _; assumption))
        (first
      | (go_at_call_of 37 (Value.int .i8 d); refine (D1.out _).mono ?_; rintro e w' ⟨rfl, hB⟩)
      | (go_at_call_of 37 (Value.int .i8 f); refine (D2.out _).mono ?_; rintro e w' ⟨rfl, hB⟩)
      | (go_at_call_of 37 (Value.int .i8 h); refine (D3.out _).mono ?_; rintro e w' ⟨rfl, hB⟩)
      | (go_at_call 36; refine (C.out _ _ _ (HS.out.below (HV.bel (by assumption))) (by simp [go_sem]) (by simp [go_sem]) (by simp [go_sem]) (by simp [go_sem]) (by simp [go_sem])).mono ?_; rintro e w' ⟨rfl, hB⟩))
      have HE := Lib.hid (HV.id (w := w) (x := x) (y := y) (d := d) (f := f) (h := h) (B3 := w.heap.size + 1 + 1) (B4 := w.heap.size + 1) (by assumption)).bel
      go_wp2
      go_ret
      exact ⟨rfl, HE.out⟩
  | false =>
    rw [errIn_no] at C
    have q1 := eqlNil_err (p 1)
    go_enter Tryd.func12, Tryd.ntmps12
    go_wp2_with fail
    go_region
    · have H0 := Lib.hid (HV.made1 w x y d f h 27 63)
      go_wp2_with fail
      go_region_held3 (fun w' => w'.cell? ⟨w.heap.size, 2, none⟩ = some (.int .i8 d) ∧ w'.cell? ⟨w.heap.size, 3, none⟩ = some (.int .i8 f) ∧ w'.cell? ⟨w.heap.size, 4, none⟩ = some (.int .i8 h) ∧ w'.cell? ⟨w.heap.size + 1, 0, none⟩ = some (.int .i64 x) ∧ w'.cell? ⟨w.heap.size + 1, 1, none⟩ = some (.int .i64 1) ∧ w'.cell? ⟨w.heap.size + 1, 2, none⟩ = some (.int .i64 1000) ∧ w'.cell? ⟨w.heap.size + 1 + 1, 0, none⟩ = some (.int .i64 y) ∧ w'.cell? ⟨w.heap.size + 1 + 1, 1, none⟩ = some (.int .i64 1) ∧ w'.cell? ⟨w.heap.size + 1 + 1, 2, none⟩ = some (.int .i64 1000) ∧ Below w.heap.size w w')
        (first | assumption | exact H0.out | exact H0.out.drew | (refine HV.next ?_ hB; assumption) | (refine HV.alloc ?_ _; assumption))
        (first
      | (go_at_call_of 37 (Value.int .i8 d); refine (D1.out _).mono ?_; rintro e w' ⟨rfl, hB⟩)
      | (go_at_call_of 37 (Value.int .i8 f); refine (D2.out _).mono ?_; rintro e w' ⟨rfl, hB⟩)
      | (go_at_call_of 37 (Value.int .i8 h); refine (D3.out _).mono ?_; rintro e w' ⟨rfl, hB⟩)
      | (go_at_call 36; refine (C.out _ _ _ (HS.out.below (HV.bel (by assumption))) (by simp [go_sem]) (by simp [go_sem]) (by simp [go_sem]) (by simp [go_sem]) (by simp [go_sem])).mono ?_; rintro e w' ⟨rfl, hB⟩))
      have HE := Lib.hid (HV.id (w := w) (x := x) (y := y) (d := d) (f := f) (h := h) (B3 := w.heap.size + 1) (B4 := w.heap.size + 1 + 1) (by assumption)).bel
      go_wp2
      go_ret
      exact ⟨rfl, HE.out⟩
    · have H0 := Lib.hid (HV.made2 w x y d f h 27 63)
      go_wp2_with fail
      go_region_held3 (fun w' => w'.cell? ⟨w.heap.size, 2, none⟩ = some (.int .i8 d) ∧ w'.cell? ⟨w.heap.size, 3, none⟩ = some (.int .i8 f) ∧ w'.cell? ⟨w.heap.size, 4, none⟩ = some (.int .i8 h) ∧ w'.cell? ⟨w.heap.size + 1 + 1, 0, none⟩ = some (.int .i64 x) ∧ w'.cell? ⟨w.heap.size + 1 + 1, 1, none⟩ = some (.int .i64 1) ∧ w'.cell? ⟨w.heap.size + 1 + 1, 2, none⟩ = some (.int .i64 1000) ∧ w'.cell? ⟨w.heap.size + 1, 0, none⟩ = some (.int .i64 y) ∧ w'.cell? ⟨w.heap.size + 1, 1, none⟩ = some (.int .i64 1) ∧ w'.cell? ⟨w.heap.size + 1, 2, none⟩ = some (.int .i64 1000) ∧ Below w.heap.size w w')
        (first | assumption | exact H0.out | exact H0.out.drew | (refine HV.next ?_ hB; assumption) | (refine HV.alloc ?_ _; assumption))
        (first
      | (go_at_call_of 37 (Value.int .i8 d); refine (D1.out _).mono ?_; rintro e w' ⟨rfl, hB⟩)
      | (go_at_call_of 37 (Value.int .i8 f); refine (D2.out _).mono ?_; rintro e w' ⟨rfl, hB⟩)
      | (go_at_call_of 37 (Value.int .i8 h); refine (D3.out _).mono ?_; rintro e w' ⟨rfl, hB⟩)
      | (go_at_call 36; refine (C.out _ _ _ (HS.out.below (HV.bel (by assumption))) (by simp [go_sem]) (by simp [go_sem]) (by simp [go_sem]) (by simp [go_sem]) (by simp [go_sem])).mono ?_; rintro e w' ⟨rfl, hB⟩))
      have HE := Lib.hid (HV.id (w := w) (x := x) (y := y) (d := d) (f := f) (h := h) (B3 := w.heap.size + 1 + 1) (B4 := w.heap.size + 1) (by assumption)).bel
      go_wp2
      go_ret
      exact ⟨rfl, HE.out⟩
end Go.Proofs.YtlmdojofjdfeeaaDoor
