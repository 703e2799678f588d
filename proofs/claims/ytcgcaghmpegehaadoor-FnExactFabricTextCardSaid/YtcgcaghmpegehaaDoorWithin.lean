/-
  No statement is proved here: which error the program finds in numbers that it asks to be within bounds; condition: its errors lie where the text lays them; at most 16 numbers.
-/
import Derived.Test.YtcgcaghmpegehaaDoorErr
import Derived.Test.YtcgcaghmpegehaaDoorWithin3
namespace Go.Proofs.YtcgcaghmpegehaaDoor
open Go.ChangeShapes Go.WideShapes Go.ChangeAt Go.RowKit

theorem Sent.three {w : World} {p : Nat → Addr} (h : Sent w p) : Sent3 w p := ⟨h.1.1, h.1.2.1, h.1.2.2.1⟩
theorem checkW_any (p : Nat → Addr) (b m cap : Nat) (N L H : Nat → Int) (w : World) (hs : Sent w p) (hm0 : 0 < m) (hm : m ≤ 16) (hb : b < w.heap.size)
    (hc : ∀ j, j < m → w.cell? ⟨b, j, none⟩ = some (.iface 76 (.agg #[.int .i64 (N j), .int .i64 (L j), .int .i64 (H j)]))) :
    Calls Tryd.prog 25 #[.slice (some ⟨b, 0, none⟩) m cap] w fun e w' => e = .returned (errIn p (allTo (fun j => inB (N j) (L j) (H j)) m)) ∧ Below w.heap.size w w' :=
  checkW3_any p b m cap N L H w hs.three hm0 hm hb hc

/-- Two, and four numbers by their places. -/
def two {α : Type} (a b : α) : Nat → α
  | 0 => a
  | _ => b
def four {α : Type} (a b c d : α) : Nat → α
  | 0 => a
  | 1 => b
  | 2 => c
  | _ => d
theorem check1_any (p : Nat → Addr) (b cap : Nat) (n lo hi : Int) (w : World) (hs : Sent w p)
    (c0 : w.cell? ⟨b, 0, none⟩ = some (.iface 76 (.agg #[.int .i64 n, .int .i64 lo, .int .i64 hi]))) :
    Calls Tryd.prog 25 #[.slice (some ⟨b, 0, none⟩) 1 cap] w fun e w' => e = .returned (errIn p (inB n lo hi)) ∧ Below w.heap.size w w' := by
  refine (checkW_any p b 1 cap (fun _ => n) (fun _ => lo) (fun _ => hi) w hs (by omega) (by omega) (World.block_lt_of_cell? w _ c0) (fun j hj => ?_)).mono fun e w' ⟨he, hw⟩ => ⟨?_, hw⟩
  · obtain rfl : j = 0 := by omega
    exact c0
  · rw [he]; simp [allTo]
theorem check2_any (p : Nat → Addr) (b cap : Nat) (n lo hi n' lo' hi' : Int) (w : World) (hs : Sent w p)
    (c0 : w.cell? ⟨b, 0, none⟩ = some (.iface 76 (.agg #[.int .i64 n, .int .i64 lo, .int .i64 hi])))
    (c1 : w.cell? ⟨b, 1, none⟩ = some (.iface 76 (.agg #[.int .i64 n', .int .i64 lo', .int .i64 hi']))) :
    Calls Tryd.prog 25 #[.slice (some ⟨b, 0, none⟩) 2 cap] w fun e w' => e = .returned (errIn p (inB n lo hi && inB n' lo' hi')) ∧ Below w.heap.size w w' := by
  refine (checkW_any p b 2 cap (two n n') (two lo lo') (two hi hi') w hs (by omega) (by omega) (World.block_lt_of_cell? w _ c0) (fun j hj => ?_)).mono fun e w' ⟨he, hw⟩ => ⟨?_, hw⟩
  · match j, hj with
    | 0, _ => exact c0
    | 1, _ => exact c1
  · rw [he]; simp [allTo, two]
theorem check4_any (p : Nat → Addr) (b cap : Nat) (n lo hi n1 lo1 hi1 n2 lo2 hi2 n3 lo3 hi3 : Int) (w : World) (hs : Sent w p)
    (c0 : w.cell? ⟨b, 0, none⟩ = some (.iface 76 (.agg #[.int .i64 n, .int .i64 lo, .int .i64 hi])))
    (c1 : w.cell? ⟨b, 1, none⟩ = some (.iface 76 (.agg #[.int .i64 n1, .int .i64 lo1, .int .i64 hi1])))
    (c2 : w.cell? ⟨b, 2, none⟩ = some (.iface 76 (.agg #[.int .i64 n2, .int .i64 lo2, .int .i64 hi2])))
    (c3 : w.cell? ⟨b, 3, none⟩ = some (.iface 76 (.agg #[.int .i64 n3, .int .i64 lo3, .int .i64 hi3]))) :
    Calls Tryd.prog 25 #[.slice (some ⟨b, 0, none⟩) 4 cap] w fun e w' => e = .returned (errIn p (inB n lo hi && inB n1 lo1 hi1 && inB n2 lo2 hi2 && inB n3 lo3 hi3)) ∧ Below w.heap.size w w' := by
  refine (checkW_any p b 4 cap (four n n1 n2 n3) (four lo lo1 lo2 lo3) (four hi hi1 hi2 hi3) w hs (by omega) (by omega) (World.block_lt_of_cell? w _ c0) (fun j hj => ?_)).mono fun e w' ⟨he, hw⟩ => ⟨?_, hw⟩
  · match j, hj with
    | 0, _ => exact c0
    | 1, _ => exact c1
    | 2, _ => exact c2
    | 3, _ => exact c3
  · rw [he]; simp [allTo, four]

theorem codeIn_any {p : Nat → Addr} (r : Bool) (w : World) (h : Sent w p) :
    Calls Tryd.prog 24 #[errIn p r] w fun e w' => e = .returned (.int .i64 (if r = true then 0 else 2)) ∧ w = w' := by
  cases r with
  | true => exact codeOf_nil w h
  | false => exact codeOf_err 1 (by omega) w h
end Go.Proofs.YtcgcaghmpegehaaDoor
