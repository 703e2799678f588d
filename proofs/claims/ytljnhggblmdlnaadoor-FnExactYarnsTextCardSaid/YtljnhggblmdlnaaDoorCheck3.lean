/-
  No statement is proved here: which error the program finds first in what it asks; condition: its errors lie where the text lays them; at most 1048576 elements.
-/
import Derived.Test.YtljnhggblmdlnaaDoorErr3
import Derived.Test.YtljnhggblmdlnaaDoorHolds
import Derived.Deep.RegionHeld3
namespace Go.Proofs.YtljnhggblmdlnaaDoor
open Go.ChangeShapes Go.WideShapes Go.ChangeAt Go.RowKit

theorem aheadYarns (v : Value) (w : World) : (nilAhead 248 56 v "loop.example/g01384/impl.holds").run Tryd.prog w = .ok (some false) w := by kernel_rfl
theorem methodYarns (v : Value) (w : World) : (Go.method 248 56 v "loop.example/g01384/impl.holds").run Tryd.prog w = .ok (101, v) w := by kernel_rfl
theorem aheadWithin (v : Value) (w : World) : (nilAhead 248 79 v "loop.example/g01384/impl.holds").run Tryd.prog w = .ok (some false) w := by kernel_rfl
theorem methodWithin (v : Value) (w : World) : (Go.method 248 79 v "loop.example/g01384/impl.holds").run Tryd.prog w = .ok (108, v) w := by kernel_rfl
theorem aheadLengths (v : Value) (w : World) : (nilAhead 248 80 v "loop.example/g01384/impl.holds").run Tryd.prog w = .ok (some false) w := by kernel_rfl
theorem methodLengths (v : Value) (w : World) : (Go.method 248 80 v "loop.example/g01384/impl.holds").run Tryd.prog w = .ok (109, v) w := by kernel_rfl
theorem aheadFew (v : Value) (w : World) : (nilAhead 248 57 v "loop.example/g01384/impl.holds").run Tryd.prog w = .ok (some false) w := by kernel_rfl
theorem methodFew (v : Value) (w : World) : (Go.method 248 57 v "loop.example/g01384/impl.holds").run Tryd.prog w = .ok (106, v) w := by kernel_rfl
theorem as_yarns_within (v : Value) (w : World) : (Instr.typeAssert (.iface 56 v) 76 79 true).run Tryd.prog w = .ok (.tuple #[.agg #[.int .i64 0, .int .i64 0, .int .i64 0], .bool false]) w := by kernel_rfl
theorem as_yarns_lengths (v : Value) (w : World) : (Instr.typeAssert (.iface 56 v) 76 80 true).run Tryd.prog w = .ok (.tuple #[.slice none 0 0, .bool false]) w := by kernel_rfl
theorem as_yarns_few (v : Value) (w : World) : (Instr.typeAssert (.iface 56 v) 76 57 true).run Tryd.prog w = .ok (.tuple #[.int .i64 0, .bool false]) w := by kernel_rfl
theorem as_within_within (a b c : Int) (w : World) : (Instr.typeAssert (.iface 79 (.agg #[.int .i64 a, .int .i64 b, .int .i64 c])) 76 79 true).run Tryd.prog w = .ok (.tuple #[(.agg #[.int .i64 a, .int .i64 b, .int .i64 c]), .bool true]) w := by kernel_rfl
theorem as_within_lengths (a b c : Int) (w : World) : (Instr.typeAssert (.iface 79 (.agg #[.int .i64 a, .int .i64 b, .int .i64 c])) 76 80 true).run Tryd.prog w = .ok (.tuple #[.slice none 0 0, .bool false]) w := by kernel_rfl
theorem as_lengths_within (v : Value) (w : World) : (Instr.typeAssert (.iface 80 v) 76 79 true).run Tryd.prog w = .ok (.tuple #[.agg #[.int .i64 0, .int .i64 0, .int .i64 0], .bool false]) w := by kernel_rfl
theorem as_lengths_lengths (v : Value) (w : World) : (Instr.typeAssert (.iface 80 v) 76 80 true).run Tryd.prog w = .ok (.tuple #[v, .bool true]) w := by kernel_rfl
theorem as_few_within (n : Int) (w : World) : (Instr.typeAssert (.iface 57 (.int .i64 n)) 76 79 true).run Tryd.prog w = .ok (.tuple #[.agg #[.int .i64 0, .int .i64 0, .int .i64 0], .bool false]) w := by kernel_rfl
theorem as_few_lengths (n : Int) (w : World) : (Instr.typeAssert (.iface 57 (.int .i64 n)) 76 80 true).run Tryd.prog w = .ok (.tuple #[.slice none 0 0, .bool false]) w := by kernel_rfl
theorem as_few_few (n : Int) (w : World) : (Instr.typeAssert (.iface 57 (.int .i64 n)) 76 57 true).run Tryd.prog w = .ok (.tuple #[(.int .i64 n), .bool true]) w := by kernel_rfl

/-- A value that the program asks: whether it holds, and which error it is else. -/
def IsAsk (w : World) (v : Value) (r : Bool) (e : Nat) : Prop :=
  (∃ x ys, v = .iface 56 x ∧ Yarns w x ys ∧ ys.length ≤ 1048576 ∧ r = allY ys ∧ e = 0) ∨
  (∃ n lo hi, v = .iface 79 (.agg #[.int .i64 n, .int .i64 lo, .int .i64 hi]) ∧ r = inB n lo hi ∧ e = 1) ∨
  (∃ x zs, v = .iface 80 x ∧ Ints w x zs ∧ zs.length ≤ 1048576 ∧ r = allL zs ∧ e = 1) ∨
  (∃ n, v = .iface 57 (.int .i64 n) ∧ r = decide (n ≤ 10) ∧ e = 2)
theorem IsAsk.below {w w' : World} {v : Value} {r : Bool} {e : Nat} (h : IsAsk w v r e) (hB : Below w.heap.size w w') : IsAsk w' v r e := by
  rcases h with ⟨x, ys, h1, h2, h3⟩ | h | ⟨x, zs, h1, h2, h3⟩ | h
  · exact .inl ⟨x, ys, h1, h2.below hB, h3⟩
  · exact .inr (.inl h)
  · exact .inr (.inr (.inl ⟨x, zs, h1, h2.below hB, h3⟩))
  · exact .inr (.inr (.inr h))
/-- The error of the first one that does not hold. -/
def firstNo (R : Nat → Bool) (E : Nat → Nat) (m : Nat) : Option Nat := ((List.range m).find? fun j => !R j).map E
theorem firstNo_at {R : Nat → Bool} {E : Nat → Nat} {m k : Nat} (h : ∀ j, j < k → R j = true) (hk : k < m) (hr : R k = false) : firstNo R E m = some (E k) := by
  unfold firstNo
  rw [show (List.range m).find? (fun j => !R j) = some k from ?_]
  · rfl
  · rw [List.find?_range_eq_some]
    exact ⟨by simp [hr], by simp [hk], fun j hj => by simp [h j hj]⟩
theorem firstNo_all {R : Nat → Bool} {E : Nat → Nat} {m : Nat} (h : ∀ j, j < m → R j = true) : firstNo R E m = none := by
  unfold firstNo
  rw [List.find?_eq_none.2 (fun j hj => by simp [h j (List.mem_range.1 hj)])]
  rfl
/-- The error as a value. -/
def errV (p : Nat → Addr) : Option Nat → Value
  | none => .nilIface
  | some k => errAt (p k)

set_option maxRecDepth 100000 in
set_option maxHeartbeats 8000000 in
theorem check_any (p : Nat → Addr) (b off m cap : Nat) (V : Nat → Value) (R : Nat → Bool) (E : Nat → Nat) (w : World) (hs : Sent w p) (hm0 : 0 < m) (hm : m ≤ 1048576) (hb : b < w.heap.size)
    (hc : ∀ j, j < m → w.cell? ⟨b, off + j, none⟩ = some (V j)) (ha : ∀ j, j < m → IsAsk w (V j) (R j) (E j)) :
    Calls Tryd.prog 31 #[.slice (some ⟨b, off, none⟩) m cap] w fun e w' => e = .returned (errV p (firstNo R E m)) ∧ Below w.heap.size w w' := by
  have F1 := Lib.hid fun k h hk hr => @firstNo_at R E m k h hk hr
  have F2 := Lib.hid (@firstNo_all R E m)
  generalize firstNo R E m = out at *
  have HS := Lib.hid hs
  have HC := Lib.hid hc
  have HA := Lib.hid ha
  have q0 := aheadYarns
  have q1 := aheadWithin
  have q2 := aheadLengths
  have q3 := aheadFew
  have q4 := methodYarns
  have q5 := methodWithin
  have q6 := methodLengths
  have q7 := methodFew
  have q8 := as_yarns_within
  have q9 := as_yarns_lengths
  have q10 := as_yarns_few
  have q11 := as_within_within
  have q12 := as_within_lengths
  have q13 := as_lengths_within
  have q14 := as_lengths_lengths
  have q15 := as_few_within
  have q16 := as_few_lengths
  have q17 := as_few_few
  clear hs hc ha
  go_enter Tryd.func31, Tryd.ntmps31
  go_wp2
  go_loopw [7] (fun i wr => ∃ k : Nat, k ≤ m ∧ i = .int .i64 k ∧ Hid (∀ j, j < k → R j = true) ∧ Hid (Below w.heap.size w wr)) (fun i _ => m - (intOf i).toNat)
  case atStart => exact ⟨0, Nat.zero_le _, rfl, fun j hj => by omega, Below.refl _ _⟩
  case round =>
    obtain ⟨k, hk, rfl, hR, hB⟩ := hrel
    by_cases hlt : k < m
    · have c1 : wr.cell? ⟨b, off + k, none⟩ = some (V k) := (hB.out.cell (p := ⟨b, off + k, none⟩) hb).trans (HC.out k hlt)
      have hA := (HA.out k hlt).below hB.out
      have f1 := fun hr => F1.out k hR.out hlt hr
      obtain ⟨⟨g2, g0, g1, _⟩, _⟩ := HS.out.below hB.out
      generalize V k = v at *
      obtain ⟨r, hr⟩ : ∃ r, r = R k := ⟨_, rfl⟩
      obtain ⟨ek, hek⟩ : ∃ ek, ek = E k := ⟨_, rfl⟩
      rw [← hr, ← hek] at hA
      rw [← hr, ← hek] at f1
      have HN := Lib.hid (show r = true → ∀ j, j < k + 1 → R j = true from fun h j hj => by
        by_cases hjk : j = k
        · subst hjk; exact hr.symm.trans h
        · exact hR.out j (by omega))
      have F3 := Lib.hid f1
      clear hr hek f1 hR
      rcases hA with ⟨x, ys, rfl, hY, hyl, hrr, rfl⟩ | ⟨n, lo, hi, rfl, hrr, rfl⟩ | ⟨x, zs, rfl, hZ, hzl, hrr, rfl⟩ | ⟨n, rfl, hrr, rfl⟩
      · have HH := Lib.hid fun wx (hx : wx = wr) => (show Calls Tryd.prog 101 #[x] wx fun e w' => e = .returned (.bool r) ∧ Below wx.heap.size wx w' by subst hx; rw [hrr]; exact yarnsHolds x ys _ hY hyl)
        clear hrr
        cases r with
        | true =>
          have HN2 := Lib.hid (HN.out rfl)
          go_wp2_with fail
          refine (HH.out _ rfl).mono ?_
          rintro e w2 ⟨rfl, hB2⟩
          have B2 := Lib.hid (hB.out.trans (hB2.mono hB.out.size))
          clear hB2
          go_wp2
          go_roundw
          case rel => exact ⟨k + 1, by omega, by go_num, HN2, B2⟩
          case measure => simp [intOf]; omega
        | false =>
          have HO := Lib.hid (F3.out rfl)
          go_wp2_with fail
          refine (HH.out _ rfl).mono ?_
          rintro e w2 ⟨rfl, hB2⟩
          have B2 := Lib.hid (hB.out.trans (hB2.mono hB.out.size))
          have e0 := (hB2.cell (p := ⟨2, 0, none⟩) (World.block_lt_of_cell? wr _ g2)).trans g2
          have e1 := (hB2.cell (p := ⟨0, 0, none⟩) (World.block_lt_of_cell? wr _ g0)).trans g0
          have e2 := (hB2.cell (p := ⟨1, 0, none⟩) (World.block_lt_of_cell? wr _ g1)).trans g1
          clear hB2
          go_wp2
          go_ret
          exact ⟨by rw [HO.out]; rfl, B2.out⟩
      · have HH := Lib.hid fun wx (hx : wx = wr) => (show Calls Tryd.prog 108 #[.agg #[.int .i64 n, .int .i64 lo, .int .i64 hi]] wx fun e w' => e = .returned (.bool r) ∧ Below wx.heap.size wx w' by subst hx; rw [hrr]; exact withinHolds n lo hi _)
        clear hrr
        cases r with
        | true =>
          have HN2 := Lib.hid (HN.out rfl)
          go_wp2_with fail
          refine (HH.out _ rfl).mono ?_
          rintro e w2 ⟨rfl, hB2⟩
          have B2 := Lib.hid (hB.out.trans (hB2.mono hB.out.size))
          clear hB2
          go_wp2
          go_roundw
          case rel => exact ⟨k + 1, by omega, by go_num, HN2, B2⟩
          case measure => simp [intOf]; omega
        | false =>
          have HO := Lib.hid (F3.out rfl)
          go_wp2_with fail
          refine (HH.out _ rfl).mono ?_
          rintro e w2 ⟨rfl, hB2⟩
          have B2 := Lib.hid (hB.out.trans (hB2.mono hB.out.size))
          have e0 := (hB2.cell (p := ⟨2, 0, none⟩) (World.block_lt_of_cell? wr _ g2)).trans g2
          have e1 := (hB2.cell (p := ⟨0, 0, none⟩) (World.block_lt_of_cell? wr _ g0)).trans g0
          have e2 := (hB2.cell (p := ⟨1, 0, none⟩) (World.block_lt_of_cell? wr _ g1)).trans g1
          clear hB2
          go_wp2
          go_ret
          exact ⟨by rw [HO.out]; rfl, B2.out⟩
      · have HH := Lib.hid fun wx (hx : wx = wr) => (show Calls Tryd.prog 109 #[x] wx fun e w' => e = .returned (.bool r) ∧ Below wx.heap.size wx w' by subst hx; rw [hrr]; exact lengthsHolds x zs _ hZ hzl)
        clear hrr
        cases r with
        | true =>
          have HN2 := Lib.hid (HN.out rfl)
          go_wp2_with fail
          refine (HH.out _ rfl).mono ?_
          rintro e w2 ⟨rfl, hB2⟩
          have B2 := Lib.hid (hB.out.trans (hB2.mono hB.out.size))
          clear hB2
          go_wp2
          go_roundw
          case rel => exact ⟨k + 1, by omega, by go_num, HN2, B2⟩
          case measure => simp [intOf]; omega
        | false =>
          have HO := Lib.hid (F3.out rfl)
          go_wp2_with fail
          refine (HH.out _ rfl).mono ?_
          rintro e w2 ⟨rfl, hB2⟩
          have B2 := Lib.hid (hB.out.trans (hB2.mono hB.out.size))
          have e0 := (hB2.cell (p := ⟨2, 0, none⟩) (World.block_lt_of_cell? wr _ g2)).trans g2
          have e1 := (hB2.cell (p := ⟨0, 0, none⟩) (World.block_lt_of_cell? wr _ g0)).trans g0
          have e2 := (hB2.cell (p := ⟨1, 0, none⟩) (World.block_lt_of_cell? wr _ g1)).trans g1
          clear hB2
          go_wp2
          go_ret
          exact ⟨by rw [HO.out]; rfl, B2.out⟩
      · have HH := Lib.hid fun wx (hx : wx = wr) => (show Calls Tryd.prog 106 #[.int .i64 n] wx fun e w' => e = .returned (.bool r) ∧ Below wx.heap.size wx w' by subst hx; rw [hrr]; exact fewHolds n _)
        clear hrr
        cases r with
        | true =>
          have HN2 := Lib.hid (HN.out rfl)
          go_wp2_with fail
          refine (HH.out _ rfl).mono ?_
          rintro e w2 ⟨rfl, hB2⟩
          have B2 := Lib.hid (hB.out.trans (hB2.mono hB.out.size))
          clear hB2
          go_wp2
          go_roundw
          case rel => exact ⟨k + 1, by omega, by go_num, HN2, B2⟩
          case measure => simp [intOf]; omega
        | false =>
          have HO := Lib.hid (F3.out rfl)
          go_wp2_with fail
          refine (HH.out _ rfl).mono ?_
          rintro e w2 ⟨rfl, hB2⟩
          have B2 := Lib.hid (hB.out.trans (hB2.mono hB.out.size))
          have e0 := (hB2.cell (p := ⟨2, 0, none⟩) (World.block_lt_of_cell? wr _ g2)).trans g2
          have e1 := (hB2.cell (p := ⟨0, 0, none⟩) (World.block_lt_of_cell? wr _ g0)).trans g0
          have e2 := (hB2.cell (p := ⟨1, 0, none⟩) (World.block_lt_of_cell? wr _ g1)).trans g1
          clear hB2
          go_wp2
          go_ret
          exact ⟨by rw [HO.out]; rfl, B2.out⟩
    · have hkm : k = m := by omega
      subst hkm
      have HO := Lib.hid (F2.out hR.out)
      go_wp2
      go_ret
      exact ⟨by rw [HO.out]; rfl, hB.out⟩
end Go.Proofs.YtljnhggblmdlnaaDoor
