/-
  No statement is proved here: which error the program finds in numbers that it asks to be within bounds; condition: its errors lie where the text lays them; at most 16 numbers.
-/
import Derived.Test.YtcgcaghmpegehaaDoorEis
import Derived.Test.YtcgcaghmpegehaaDoorIn
import Derived.Deep.RegionHeld3
namespace Go.Proofs.YtcgcaghmpegehaaDoor
open Go.ChangeShapes Go.WideShapes Go.ChangeAt Go.RowKit

/-- The three errors that are found so lie at p 0, p 1, p 2. -/
def Sent3 (w : World) (p : Nat → Addr) : Prop :=
  w.cell? ⟨0, 0, none⟩ = some (errAt (p 0)) ∧ w.cell? ⟨1, 0, none⟩ = some (errAt (p 1)) ∧
   w.cell? ⟨2, 0, none⟩ = some (errAt (p 2))
theorem Sent3.below {w w' : World} {p : Nat → Addr} (h : Sent3 w p) (hB : Below w.heap.size w w') : Sent3 w' p := by
  have k : ∀ {b o : Nat} {v : Value}, w.cell? ⟨b, o, none⟩ = some v → w'.cell? ⟨b, o, none⟩ = some v := fun hc => (hB.cell (p := ⟨_, _, none⟩) (World.block_lt_of_cell? w _ hc)).trans hc
  exact ⟨k h.1, k h.2.1, k h.2.2⟩

theorem aheadWithin (v : Value) (w : World) : (nilAhead 251 76 v "loop.example/g01384/impl.holds").run Tryd.prog w = .ok (some false) w := by kernel_rfl
theorem methodWithin (v : Value) (w : World) : (Go.method 251 76 v "loop.example/g01384/impl.holds").run Tryd.prog w = .ok (68, v) w := by kernel_rfl
theorem as_within_within (a b c : Int) (w : World) : (Instr.typeAssert (.iface 76 (.agg #[.int .i64 a, .int .i64 b, .int .i64 c])) 73 76 true).run Tryd.prog w = .ok (.tuple #[(.agg #[.int .i64 a, .int .i64 b, .int .i64 c]), .bool true]) w := by kernel_rfl

theorem as_within_lengths (a b c : Int) (w : World) : (Instr.typeAssert (.iface 76 (.agg #[.int .i64 a, .int .i64 b, .int .i64 c])) 73 77 true).run Tryd.prog w = .ok (.tuple #[.slice none 0 0, .bool false]) w := by kernel_rfl
theorem as_within_few (a b c : Int) (w : World) : (Instr.typeAssert (.iface 76 (.agg #[.int .i64 a, .int .i64 b, .int .i64 c])) 73 78 true).run Tryd.prog w = .ok (.tuple #[.int .i64 0, .bool false]) w := by kernel_rfl

set_option maxHeartbeats 1000000 in
theorem withinHolds (n lo hi : Int) (w : World) :
    Calls Tryd.prog 68 #[.agg #[.int .i64 n, .int .i64 lo, .int .i64 hi]] w fun e w' => e = .returned (.bool (inB n lo hi)) ∧ Below w.heap.size w w' := by
  by_cases h1 : lo ≤ n
  · by_cases h2 : n ≤ hi
    · rw [inB_mk ⟨h1, h2⟩]
      go_enter Tryd.func68, Tryd.ntmps68
      go_wp2
      go_ret
      exact ⟨rfl, by go_grown⟩
    · rw [inB_mkno (.inr (by omega))]
      go_enter Tryd.func68, Tryd.ntmps68
      go_wp2
      go_ret
      exact ⟨rfl, by go_grown⟩
  · rw [inB_mkno (.inl (by omega))]
    go_enter Tryd.func68, Tryd.ntmps68
    go_wp2
    go_ret
    exact ⟨rfl, by go_grown⟩

theorem neqNil_err (a : Addr) (w : World) : (binOp .neq 55 (errAt a) .nilIface).run Tryd.prog w = .ok (.bool true) w := by kernel_rfl
theorem neqNil_nil (w : World) : (binOp .neq 55 .nilIface .nilIface).run Tryd.prog w = .ok (.bool false) w := by kernel_rfl

/-- The error of numbers that are all within their bounds, or not. -/
def errIn (p : Nat → Addr) (r : Bool) : Value := if r = true then .nilIface else errAt (p 1)
theorem errIn_yes (p : Nat → Addr) : errIn p true = .nilIface := rfl
theorem errIn_no (p : Nat → Addr) : errIn p false = errAt (p 1) := rfl
/-- All of the first m hold. -/
def allTo (R : Nat → Bool) : Nat → Bool
  | 0 => true
  | m + 1 => allTo R m && R m
theorem allTo_all {R : Nat → Bool} : ∀ {m : Nat}, (∀ j, j < m → R j = true) → allTo R m = true
  | 0, _ => rfl
  | m + 1, h => by rw [allTo, allTo_all fun j hj => h j (by omega), h m (by omega)]; rfl
theorem allTo_no {R : Nat → Bool} : ∀ {m k : Nat}, k < m → R k = false → allTo R m = false
  | m + 1, k, h, hr => by
    rw [allTo]
    by_cases hk : k = m
    · subst hk; rw [hr]; simp
    · rw [allTo_no (show k < m by omega) hr]; rfl

set_option maxRecDepth 100000 in
set_option maxHeartbeats 4000000 in
theorem checkW3_any (p : Nat → Addr) (b m cap : Nat) (N L H : Nat → Int) (w : World) (hs : Sent3 w p) (hm0 : 0 < m) (hm : m ≤ 16) (hb : b < w.heap.size)
    (hc : ∀ j, j < m → w.cell? ⟨b, j, none⟩ = some (.iface 76 (.agg #[.int .i64 (N j), .int .i64 (L j), .int .i64 (H j)]))) :
    Calls Tryd.prog 25 #[.slice (some ⟨b, 0, none⟩) m cap] w fun e w' => e = .returned (errIn p (allTo (fun j => inB (N j) (L j) (H j)) m)) ∧ Below w.heap.size w w' := by
  have F1 := Lib.hid fun k (hk : k < m) hr => @allTo_no (fun j => inB (N j) (L j) (H j)) m k hk hr
  have F2 := Lib.hid (@allTo_all (fun j => inB (N j) (L j) (H j)) m)
  generalize allTo (fun j => inB (N j) (L j) (H j)) m = out at *
  have HS := Lib.hid hs
  have HC := Lib.hid hc
  have q1 := aheadWithin
  have q5 := methodWithin
  have q11 := as_within_within
  have q12 := as_within_lengths
  have q13 := as_within_few
  clear hs hc
  go_enter Tryd.func25, Tryd.ntmps25
  go_wp2
  go_loopw [7] (fun i wr => ∃ k : Nat, k ≤ m ∧ i = .int .i64 k ∧ Hid (∀ j, j < k → inB (N j) (L j) (H j) = true) ∧ Hid (Below w.heap.size w wr)) (fun i _ => m - (intOf i).toNat)
  case atStart => exact ⟨0, Nat.zero_le _, rfl, fun j hj => by omega, Below.refl _ _⟩
  case round =>
    obtain ⟨k, hk, rfl, hR, hB⟩ := hrel
    by_cases hlt : k < m
    · have c1 : wr.cell? ⟨b, k, none⟩ = some (.iface 76 (.agg #[.int .i64 (N k), .int .i64 (L k), .int .i64 (H k)])) := (hB.out.cell (p := ⟨b, k, none⟩) hb).trans (HC.out k hlt)
      have f1 := Lib.hid fun hr => F1.out k hlt hr
      obtain ⟨g2, g0, g1⟩ := HS.out.below hB.out
      have HN := Lib.hid (show inB (N k) (L k) (H k) = true → ∀ j, j < k + 1 → inB (N j) (L j) (H j) = true from fun h j hj => by
        by_cases hjk : j = k
        · subst hjk; exact h
        · exact hR.out j (by omega))
      have HH := Lib.hid fun wx => withinHolds (N k) (L k) (H k) wx
      generalize N k = n at *
      generalize L k = lo at *
      generalize H k = hi at *
      cases hr : inB n lo hi with
      | true =>
        rw [hr] at HH
        have HN2 := Lib.hid (HN.out hr)
        clear hr f1
        go_wp2_with fail
        refine (HH.out _).mono ?_
        rintro e w2 ⟨rfl, hB2⟩
        have B2 := Lib.hid (hB.out.trans (hB2.mono hB.out.size))
        clear hB2
        go_wp2
        go_roundw
        case rel => exact ⟨k + 1, by omega, by go_num, HN2, B2⟩
        case measure => simp [intOf]; omega
      | false =>
        rw [hr] at HH
        have HO := Lib.hid (f1.out hr)
        clear hr f1
        go_wp2_with fail
        refine (HH.out _).mono ?_
        rintro e w2 ⟨rfl, hB2⟩
        have B2 := Lib.hid (hB.out.trans (hB2.mono hB.out.size))
        have e0 := (hB2.cell (p := ⟨0, 0, none⟩) (World.block_lt_of_cell? wr _ g2)).trans g2
        have e1 := (hB2.cell (p := ⟨1, 0, none⟩) (World.block_lt_of_cell? wr _ g0)).trans g0
        have e2 := (hB2.cell (p := ⟨2, 0, none⟩) (World.block_lt_of_cell? wr _ g1)).trans g1
        clear hB2
        go_wp2
        go_ret
        exact ⟨by rw [HO.out]; rfl, B2.out⟩
    · have hkm : k = m := by omega
      subst hkm
      have HO := Lib.hid (F2.out hR.out)
      go_wp2
      go_ret
      exact ⟨by rw [HO.out]; rfl, hB.out⟩

end Go.Proofs.YtcgcaghmpegehaaDoor
