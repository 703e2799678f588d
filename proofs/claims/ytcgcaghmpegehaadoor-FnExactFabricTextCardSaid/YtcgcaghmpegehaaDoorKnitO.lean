/-
  No statement is proved here: whether the document's own text finds a fabric valid, and whether the program finds that a row can be knitted; condition: rows of at most 1048576 bytes.
-/
import Derived.Test.YtcgcaghmpegehaaDoorKnitS
import Derived.Test.YtcgcaghmpegehaaDoorKnitM
import Derived.Test.YtcgcaghmpegehaaDoorIntsMark
import Derived.Deep.QuietTactic
import Derived.BigQuiet
namespace Go.Proofs.YtcgcaghmpegehaaDoor
open Go.ChangeShapes Go.WideShapes Go.ChangeAt Go.RowKit

/-- A box of two, and of three cells, in a world behind w. -/
def Hb2 (w W : World) (b : Nat) (x y : Value) : Prop := W.cell? ⟨b, 0, none⟩ = some x ∧ W.cell? ⟨b, 1, none⟩ = some y ∧ Below w.heap.size w W ∧ b < W.heap.size
theorem hb2_id {w W : World} {b : Nat} {x y : Value} (h : W.cell? ⟨b, 0, none⟩ = some x ∧ W.cell? ⟨b, 1, none⟩ = some y ∧ Below w.heap.size w W ∧ b < W.heap.size) : Hb2 w W b x y := h
theorem hb2_next {w W w' : World} {b : Nat} {x y : Value} (h : Hb2 w W b x y) (hB : Below W.heap.size W w') : w'.cell? ⟨b, 0, none⟩ = some x ∧ w'.cell? ⟨b, 1, none⟩ = some y ∧ Below w.heap.size w w' ∧ b < w'.heap.size :=
  ⟨kept hB h.2.2.2 h.1, kept hB h.2.2.2 h.2.1, h.2.2.1.trans (hB.mono h.2.2.1.size), Nat.lt_of_lt_of_le h.2.2.2 hB.size⟩
theorem hb2_drew {w W : World} {b : Nat} {x y : Value} (h : Hb2 w W b x y) : W.drew.cell? ⟨b, 0, none⟩ = some x ∧ W.drew.cell? ⟨b, 1, none⟩ = some y ∧ Below w.heap.size w W.drew ∧ b < W.drew.heap.size := ⟨h.1, h.2.1, h.2.2.1.drew, h.2.2.2⟩
theorem hb2_made (w : World) (x y : Value) (t : TypeId) : Hb2 w (w.alloc (.cells #[x, y] t)) w.heap.size x y := ⟨by simp [go_sem], by simp [go_sem], by go_grown, by simp⟩
def Hb3 (w W : World) (b : Nat) (x y z : Value) : Prop := W.cell? ⟨b, 0, none⟩ = some x ∧ W.cell? ⟨b, 1, none⟩ = some y ∧ W.cell? ⟨b, 2, none⟩ = some z ∧ Below w.heap.size w W ∧ b < W.heap.size
theorem hb3_id {w W : World} {b : Nat} {x y z : Value} (h : W.cell? ⟨b, 0, none⟩ = some x ∧ W.cell? ⟨b, 1, none⟩ = some y ∧ W.cell? ⟨b, 2, none⟩ = some z ∧ Below w.heap.size w W ∧ b < W.heap.size) : Hb3 w W b x y z := h
theorem hb3_below {w W : World} {b : Nat} {x y z : Value} (h : Hb3 w W b x y z) : Below w.heap.size w W := h.2.2.2.1
theorem hb3_raw {w W : World} {b : Nat} {x y z : Value} (h : Hb3 w W b x y z) : W.cell? ⟨b, 0, none⟩ = some x ∧ W.cell? ⟨b, 1, none⟩ = some y ∧ W.cell? ⟨b, 2, none⟩ = some z ∧ Below w.heap.size w W ∧ b < W.heap.size := h
theorem hb3_next {w W w' : World} {b : Nat} {x y z : Value} (h : Hb3 w W b x y z) (hB : Below W.heap.size W w') : w'.cell? ⟨b, 0, none⟩ = some x ∧ w'.cell? ⟨b, 1, none⟩ = some y ∧ w'.cell? ⟨b, 2, none⟩ = some z ∧ Below w.heap.size w w' ∧ b < w'.heap.size :=
  ⟨kept hB h.2.2.2.2 h.1, kept hB h.2.2.2.2 h.2.1, kept hB h.2.2.2.2 h.2.2.1, h.2.2.2.1.trans (hB.mono h.2.2.2.1.size), Nat.lt_of_lt_of_le h.2.2.2.2 hB.size⟩
theorem hb3_drew {w W : World} {b : Nat} {x y z : Value} (h : Hb3 w W b x y z) : W.drew.cell? ⟨b, 0, none⟩ = some x ∧ W.drew.cell? ⟨b, 1, none⟩ = some y ∧ W.drew.cell? ⟨b, 2, none⟩ = some z ∧ Below w.heap.size w W.drew ∧ b < W.drew.heap.size := ⟨h.1, h.2.1, h.2.2.1, h.2.2.2.1.drew, h.2.2.2.2⟩
theorem hb3_made (w : World) (x y z : Value) (t : TypeId) : Hb3 w (w.alloc (.cells #[x, y, z] t)) w.heap.size x y z := ⟨by simp [go_sem], by simp [go_sem], by simp [go_sem], by go_grown, by simp⟩

set_option maxRecDepth 100000 in
set_option maxHeartbeats 4000000 in
theorem specOk_any (b : Nat) (c : Int) (v : Value) (L : List ByteArray) (w : World) (c0 : w.cell? ⟨b, 0, none⟩ = some (.int .i16 c)) (c1 : w.cell? ⟨b, 1, none⟩ = some v) (hc : -32768 ≤ c ∧ c ≤ 32767)
    (h : Strs w v L) (hn : L.length ≤ 1048576) (hs : ∀ j, j < L.length → (rowAt L j).size ≤ 1048576) :
    Calls Tryd.prog 10 #[.pointer (some ⟨b, 0, none⟩)] w fun e w' => e = .returned (.bool (okF c L)) ∧ ∃ n, w' = w.drewN n := by
  have HB := Lib.hid fun n => specBad_any c v L (w.drewN n) h hn hs
  obtain ⟨a1, cp, rfl⟩ := h.len
  obtain ⟨hc1, hc2⟩ := hc
  cases hi : inB c 1 60 with
  | false =>
    rw [okF_cast hi]
    have HC := Lib.hid fun wx => specCast_any c wx
    rw [hi] at HC
    clear hi HB h hn hs
    go_enter Tryd.func10, Tryd.ntmps10
    go_wp2
    go_quiet ((go_at_call 16; exact Calls.quiet_of_same ((HC.out _).mono fun _ _ ⟨he, hw⟩ => ⟨he, hw.symm⟩)))
    go_wp2
    go_ret
    exact ⟨rfl, _, rfl⟩
  | true =>
    have HC := Lib.hid fun wx => specCast_any c wx
    rw [hi] at HC
    by_cases hb : badF c L < 0
    · have e : okF c L = true := by simp [okF, hi, hb]
      rw [e]
      generalize badF c L = x at *
      clear hi h hn hs e
      go_enter Tryd.func10, Tryd.ntmps10
      go_wp2
      go_quiet ((first | (go_at_call 16; exact Calls.quiet_of_same ((HC.out _).mono fun _ _ ⟨he, hw⟩ => ⟨he, hw.symm⟩)) | (go_at_call 17; exact Calls.quiet_of_same ((HB.out _).mono fun _ _ ⟨he, hw⟩ => ⟨he, hw.symm⟩))))
      go_wp2
      go_ret
      exact ⟨rfl, _, rfl⟩
    · have e : okF c L = false := by simp [okF, hi, hb]
      rw [e]
      generalize badF c L = x at *
      clear hi h hn hs e
      go_enter Tryd.func10, Tryd.ntmps10
      go_wp2
      go_quiet ((first | (go_at_call 16; exact Calls.quiet_of_same ((HC.out _).mono fun _ _ ⟨he, hw⟩ => ⟨he, hw.symm⟩)) | (go_at_call 17; exact Calls.quiet_of_same ((HB.out _).mono fun _ _ ⟨he, hw⟩ => ⟨he, hw.symm⟩))))
      go_wp2
      go_ret
      exact ⟨ret_bool (decide_eq_false (by omega)), _, rfl⟩

set_option maxRecDepth 100000 in
set_option maxHeartbeats 2000000 in
theorem width_any (c : Int) (ra : Option Addr) (rc n : Nat) (v : Value) (zs : List Int) (w : World) (h : Ints w v zs) (hl : zs.length = n + 1) (hn : n ≤ 1048576) :
    Calls Tryd.prog 38 #[.agg #[.int .i64 c, .slice ra n rc, v]] w fun e w' => e = .returned (.int .i64 (zs.getD n 0)) ∧ Below w.heap.size w w' := by
  obtain ⟨b, off, cap, rfl, hc⟩ := h.pos (by omega)
  have hb : b < w.heap.size := by
    rcases h with ⟨_, _, _, rfl⟩ | ⟨b', off', cap', e, _, hb, _⟩
    · simp at hl
    · cases e
      exact hb
  have c0 : w.cell? ⟨b, off + n, none⟩ = some (.int .i64 (zs.getD n 0)) := hc n (by omega)
  rw [hl]
  clear hc h hl
  generalize zs.getD n 0 = x at *
  have X0 := hb3_made w (.int .i64 c) (.slice ra n rc) (.slice (some ⟨b, off, none⟩) (n + 1 : Nat) cap) 46
  have c2 := kept X0.2.2.2.1 hb c0
  have B0 := Lib.hid X0.2.2.2.1
  clear X0
  go_enter Tryd.func38, Tryd.ntmps38
  go_wp2
  go_ret
  exact ⟨rfl, B0.out⟩

end Go.Proofs.YtcgcaghmpegehaaDoor
