/-
  No statement is proved here: an order is taken from a lot, in the program; condition: numbers within their kinds.
-/
import Derived.Test.YtapimmlhcbjgoaaLfM
import Derived.Laws.OwnMore
import Derived.Deep.RegionHeld3
import Derived.StillTailTactics
namespace Go.Proofs.Ytapimmlhcbjgoaa
open Go.ChangeShapes Go.WideShapes Go.ChangeAt Go.RowKit

set_option maxHeartbeats 2000000 in
theorem canServe_any (s l so og : Int) (w : World) :
    Calls Try.prog 41 #[.agg #[.int .i8 s, .int .i16 l], .agg #[.int .i8 so, .int .i16 og]] w fun e w' => e = .returned (.bool (canB (s, l) (so, og))) ∧ Below w.heap.size w w' := by
  have hr : canB (s, l) (so, og) = (decide (s = so) && decide (og ≤ l)) := rfl
  rw [hr]
  clear hr
  by_cases h1 : s = so
  · subst h1
    by_cases h2 : og ≤ l
    · have h3 : (s == s) = true := by simp
      rw [decide_eq_true (rfl : s = s), decide_eq_true h2]
      go_enter Try.func41, Try.ntmps41
      go_wp2
      go_ret
      exact ⟨rfl, by go_grown⟩
    · have h3 : (s == s) = true := by simp
      rw [decide_eq_true (rfl : s = s), decide_eq_false h2]
      go_enter Try.func41, Try.ntmps41
      go_wp2
      go_ret
      exact ⟨rfl, by go_grown⟩
  · have h3 : (s == so) = false := by simpa using h1
    rw [decide_eq_false h1]
    go_enter Try.func41, Try.ntmps41
    go_wp2
    go_ret
    exact ⟨rfl, by go_grown⟩

theorem ownLt_at {w : World} {base : Nat} {a : Option Addr} {n cap : Nat} {T : List Lt} (h : OwnLt w base (.slice a n cap) T) (hn : n = T.length) (h0 : 0 < n) : ∃ g, a = some ⟨g, 0, none⟩ ∧ base ≤ g ∧ g < w.heap.size := by
  rcases h.row.2 with ⟨e, h'⟩ | ⟨g, c, cur, e, hb, hg, _⟩
  · omega
  · simp only [Value.slice.injEq] at e
    exact ⟨g, e.1, hb, lt_of_block hg⟩
theorem cellsLt_put {T : List Lt} {q : Nat} (hq : q < T.length) (z : Int) : (cellsLt T).set (q * 2 + 1) (.int .i16 z) = cellsLt (T.set q ((atLt T q).1, z)) := by
  have h := cellsLt_set T q ((atLt T q).1, z) hq
  have e : (cellsLt T).set (q * 2) (.int .i8 (atLt T q).1) = cellsLt T := by
    apply List.ext_getElem?
    intro j
    rw [List.getElem?_set]
    split
    · rename_i e
      subst e
      have h1 := (cellsLt_get T q hq).1
      rw [h1, if_pos (by rw [cellsLt_length]; omega)]
    · rfl
  simp only at h
  rw [e] at h
  exact h
theorem isLt_put {T : List Lt} {q : Nat} (hq : q < T.length) (h : ∀ j, IsLt (atLt T j)) {z : Int} (hz : -32768 ≤ z ∧ z ≤ 32767) : ∀ j, IsLt (atLt (T.set q ((atLt T q).1, z)) j) := fun j => by
  rw [atLt_set hq]
  split
  · exact ⟨(h q).1, hz⟩
  · exact h j
theorem grownBy_setI (W : World) (b a : Nat) (v : Value) : W.grownBy (W.setCell ⟨b, a, none⟩ v) (some b) :=
  ⟨rfl, rfl, rfl, by simp, fun i _ hne => Below.heap_setCell _ _ _ i (fun e => hne (by rw [e]))⟩
theorem grown_drewI {w w' : World} {row : Option Nat} (h : w.grownBy w' row) : w.grownBy w'.drew row := ⟨h.os, h.tape, h.output, h.size, h.block⟩

set_option maxRecDepth 100000 in
set_option maxHeartbeats 4000000 in
theorem serve_no (a : Option Addr) (n cap : Nat) (T : List Lt) (x so og : Int) (base : Nat) (w : World) (h : OwnLt w base (.slice a n cap) T) (hn : n = T.length) (hn1 : n ≤ 1048576)
    (hno : x < 0 ∨ (n : Int) ≤ x ∨ canB (atLt T x.toNat) (so, og) = false) :
    Calls Try.prog 36 #[.slice a n cap, .int .i64 x, .agg #[.int .i8 so, .int .i16 og]] w fun e w' => e = .returned (.bool false) ∧ Below w.heap.size w w' := by
  have HX := Lib.hid (by go_grown : Below w.heap.size w (w.alloc (.cells #[.int .i8 so, .int .i16 og] 49)))
  by_cases h0 : x < 0
  · clear h hno hn
    have hd0 : decide (x < 0) = true := decide_eq_true h0
    go_enter Try.func36, Try.ntmps36
    go_wp2_with fail
    go_quiet (fail)
    go_wp2_with fail
    go_ret
    exact ⟨rfl, HX.out.trans ((bdN _ _).mono HX.out.size)⟩
  · by_cases h1 : (n : Int) ≤ x
    · clear h hno hn
      have hd0 : decide (x < 0) = false := decide_eq_false h0
      have hd1 : decide ((n : Int) ≤ x) = true := decide_eq_true h1
      go_enter Try.func36, Try.ntmps36
      go_wp2_with fail
      go_quiet (fail)
      go_wp2_with fail
      go_ret
      exact ⟨rfl, HX.out.trans ((bdN _ _).mono HX.out.size)⟩
    · obtain ⟨q, rfl⟩ : ∃ q : Nat, x = q := ⟨x.toNat, by omega⟩
      have hq : q < n := by omega
      have hno' : canB (atLt T q) (so, og) = false := by
        rcases hno with h2 | h2 | h2
        · omega
        · omega
        · rwa [Int.toNat_natCast] at h2
      obtain ⟨b, off, c', e, hb, hc⟩ := h.rel.pos (by omega)
      simp only [Value.slice.injEq] at e
      obtain ⟨rfl, hh, rfl⟩ := e
      clear hh
      have hcq := hc q (by omega)
      have l0 := (HX.out.cell (p := ⟨b, _, none⟩) hb).trans hcq.1
      have l1 := (HX.out.cell (p := ⟨b, _, none⟩) hb).trans hcq.2
      have HC := Lib.hid fun wx => canServe_any (atLt T q).1 (atLt T q).2 so og wx
      rw [show ((atLt T q).1, (atLt T q).2) = atLt T q from rfl, hno'] at HC
      have c0 : (w.alloc (.cells #[.int .i8 so, .int .i16 og] 49)).cell? ⟨w.heap.size, 0, none⟩ = some (.int .i8 so) := by simp [go_sem]
      have c1 : (w.alloc (.cells #[.int .i8 so, .int .i16 og] 49)).cell? ⟨w.heap.size, 1, none⟩ = some (.int .i16 og) := by simp [go_sem]
      generalize (atLt T q).1 = ls at *
      generalize (atLt T q).2 = lg at *
      obtain ⟨W0, hW0⟩ : ∃ W0, W0 = w.alloc (.cells #[.int .i8 so, .int .i16 og] 49) := ⟨_, rfl⟩
      rw [← hW0] at l0 l1 c0 c1 HX
      have HW0 := Lib.hid hW0
      clear h hno hno' hc hcq hW0 hn
      have hd0 : decide ((q : Int) < 0) = false := decide_eq_false h0
      have hd1 : decide ((n : Int) ≤ (q : Int)) = false := decide_eq_false h1
      have hd2 : ¬ n ≤ q := by omega
      clear h0 h1
      go_enter Try.func36, Try.ntmps36
      go_wp2_with fail
      rw [← HW0.out]
      go_still_tail 14, (by kernel_rfl)
      change wpList _ _ _ _ _ W0.drew
      go_wp2_with fail
      refine (HC.out _).mono ?_
      rintro e w2 ⟨rfl, hB2⟩
      go_wp2_with fail
      go_ret
      exact ⟨rfl, HX.out.trans ((((Below.refl _ W0).drew).trans hB2).mono HX.out.size)⟩

set_option maxRecDepth 100000 in
set_option maxHeartbeats 4000000 in
theorem serve_yes (a : Option Addr) (n cap : Nat) (T : List Lt) (q : Nat) (so og : Int) (base : Nat) (w : World) (h : OwnLt w base (.slice a n cap) T) (hn : n = T.length) (hn1 : n ≤ 1048576) (hq : q < n)
    (hyes : canB (atLt T q) (so, og) = true) (hog : 1 ≤ og ∧ og ≤ 5000) (hlg : 0 ≤ (atLt T q).2 ∧ (atLt T q).2 ≤ 5000) :
    Calls Try.prog 36 #[.slice a n cap, .int .i64 q, .agg #[.int .i8 so, .int .i16 og]] w fun e w' => e = .returned (.bool true) ∧ OwnLt w' base (.slice a n cap) (T.set q ((atLt T q).1, (atLt T q).2 - og)) ∧ w.grownBy w' (Value.slice a n cap).ownBlock := by
  obtain ⟨g, rfl, hgb, hgs⟩ := ownLt_at h hn (by omega)
  have HX := Lib.hid (by go_grown : Below w.heap.size w (w.alloc (.cells #[.int .i8 so, .int .i16 og] 49)))
  have hrow := h.row
  rw [← hn] at hrow
  have g0 := (cellsLt_get T q (by omega)).1
  have g1 := (cellsLt_get T q (by omega)).2
  have e0 := (hrow.cellAt (q * 2) (by omega)).trans g0
  have e1 := (hrow.cellAt (q * 2 + 1) (by omega)).trans g1
  have f1 := hrow.frozenAt (q * 2 + 1)
  have l0 := (HX.out.cell (p := ⟨g, _, none⟩) hgs).trans e0
  have l1 := (HX.out.cell (p := ⟨g, _, none⟩) hgs).trans e1
  have HE1 := Lib.hid e1
  have HF1 := Lib.hid f1
  have HR := Lib.hid hrow
  have HSET := Lib.hid (cellsLt_put (T := T) (q := q) (by omega) ((atLt T q).2 - og))
  have H16 := Lib.hid (isLt_put (T := T) (q := q) (by omega) h.1 (z := (atLt T q).2 - og) (by omega))
  have HLEN := Lib.hid (show (T.set q ((atLt T q).1, (atLt T q).2 - og)).length = n by rw [List.length_set, hn])
  have HC := Lib.hid fun wx => canServe_any (atLt T q).1 (atLt T q).2 so og wx
  rw [show ((atLt T q).1, (atLt T q).2) = atLt T q from rfl, hyes] at HC
  have c0 : (w.alloc (.cells #[.int .i8 so, .int .i16 og] 49)).cell? ⟨w.heap.size, 0, none⟩ = some (.int .i8 so) := by simp [go_sem]
  have c1 : (w.alloc (.cells #[.int .i8 so, .int .i16 og] 49)).cell? ⟨w.heap.size, 1, none⟩ = some (.int .i16 og) := by simp [go_sem]
  unfold OwnLt
  generalize hT2 : T.set q ((atLt T q).1, (atLt T q).2 - og) = T2 at *
  generalize (atLt T q).1 = ls at *
  generalize (atLt T q).2 = lg at *
  obtain ⟨W0, hW0⟩ : ∃ W0, W0 = w.alloc (.cells #[.int .i8 so, .int .i16 og] 49) := ⟨_, rfl⟩
  rw [← hW0] at l0 l1 c0 c1 HX
  have hz0 : w.heap.size < W0.heap.size := by rw [hW0]; simp
  have HW0 := Lib.hid hW0
  have HC1 := Lib.hid c1
  have HZ := Lib.hid hz0
  clear h hyes hW0 hn hrow g0 g1 e0 e1 f1 hT2 hz0
  have hd0 : decide ((q : Int) < 0) = false := by simp
  have hd1 : decide ((n : Int) ≤ (q : Int)) = false := decide_eq_false (by omega)
  have hd2 : ¬ n ≤ q := by omega
  go_enter Try.func36, Try.ntmps36
  go_wp2_with fail
  rw [← HW0.out]
  go_still_tail 14, (by kernel_rfl)
  change wpList _ _ _ _ _ W0.drew
  go_wp2_with fail
  refine (HC.out _).mono ?_
  rintro e w2 ⟨rfl, hB2⟩
  have B0 : Below W0.heap.size W0 w2 := ((Below.refl _ W0).drew).trans hB2
  have T2' := HX.out.trans (B0.mono HX.out.size)
  have c1' := (B0.cell (p := ⟨w.heap.size, 1, none⟩) HZ.out).trans HC1.out
  have e1' := (T2'.cell (p := ⟨g, _, none⟩) hgs).trans HE1.out
  have f1' := (T2'.frozen (p := ⟨g, _, none⟩) hgs).trans HF1.out
  have R2 := (HR.out.kept (w' := w2) (row := none) ⟨T2'.os, T2'.tape, T2'.output, T2'.size, fun i hi _ => T2'.block i hi⟩ (.inr (by simp [Value.ownBlock])))
  have S2 := (R2.stored (q * 2 + 1) (.int .i16 (lg - og))).1
  rw [HSET.out] at S2
  have G2 : w.grownBy (w2.setCell ⟨g, q * 2 + 1, none⟩ (.int .i16 (lg - og))).drew (some g) := grown_drewI (grown_tr ⟨T2'.os, T2'.tape, T2'.output, T2'.size, fun i hi _ => T2'.block i hi⟩ (grownBy_setI _ _ _ _))
  have HS2 := Lib.hid S2
  have HG2 := Lib.hid G2
  clear l0 l1 c0 hB2 T2' B0 R2 S2 G2
  go_wp2_with fail
  go_region
  go_wp2_with fail
  go_ret
  refine ⟨rfl, ⟨H16.out, ?_⟩, HG2.out⟩
  rw [HLEN.out]
  exact HS2.out.kept (row := none) (grown_drewI (World.grownBy.refl _ _)) (.inr (by simp [Value.ownBlock]))
end Go.Proofs.Ytapimmlhcbjgoaa
