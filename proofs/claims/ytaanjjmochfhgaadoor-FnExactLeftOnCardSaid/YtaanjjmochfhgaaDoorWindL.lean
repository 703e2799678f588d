/-
  No statement is proved here: the reels of the program as values, and the rows of them; no condition.
-/
import Derived.Test.YtaanjjmochfhgaaDoorWindN
import Derived.Test.YtaanjjmochfhgaaDoorReelL
import Derived.Test.YtaanjjmochfhgaaDoorThreads
import Derived.Test.YtaanjjmochfhgaaDoorUpTo
namespace Go.Proofs.YtaanjjmochfhgaaDoor
open Go.ChangeShapes Go.WideShapes Go.ChangeAt Go.RowKit

theorem aheadLoaded (v : Value) (w : World) : (nilAhead 259 92 v "loop.example/g01384/impl.takes").run Tryd.prog w = .ok (some false) w := by kernel_rfl
theorem methodLoadedT (v : Value) (w : World) : (Go.method 259 92 v "loop.example/g01384/impl.takes").run Tryd.prog w = .ok (77, v) w := by kernel_rfl
theorem aheadLoadedW (v : Value) (w : World) : (nilAhead 259 92 v "loop.example/g01384/impl.with").run Tryd.prog w = .ok (some false) w := by kernel_rfl
theorem methodLoadedW (v : Value) (w : World) : (Go.method 259 92 v "loop.example/g01384/impl.with").run Tryd.prog w = .ok (78, v) w := by kernel_rfl
theorem aheadBare (v : Value) (w : World) : (nilAhead 259 61 v "loop.example/g01384/impl.takes").run Tryd.prog w = .ok (some false) w := by kernel_rfl
theorem methodBareT (v : Value) (w : World) : (Go.method 259 61 v "loop.example/g01384/impl.takes").run Tryd.prog w = .ok (49, v) w := by kernel_rfl
theorem aheadBareW (v : Value) (w : World) : (nilAhead 259 61 v "loop.example/g01384/impl.with").run Tryd.prog w = .ok (some false) w := by kernel_rfl
theorem methodBareW (v : Value) (w : World) : (Go.method 259 61 v "loop.example/g01384/impl.with").run Tryd.prog w = .ok (75, v) w := by kernel_rfl
set_option maxRecDepth 100000 in
theorem infoReel : (Tryd.prog.info? 67).map (fun i => (i.zero, i.size, i.bytes)) = some (some .nilIface, 1, 16) := by kernel_rfl

/-- A reel with the first k strands of a list. -/
def rvR (m : Nat → Int) (hold : Int) (ss : List Sn) (k : Nat) : Value :=
  if k = 0 then .iface 61 (.agg #[.int .i64 hold, .int .u8 (m 0), .int .u8 (m 1), .int .u8 (m 2), .int .u8 (m 3), .int .u8 (m 4), .int .u8 (m 5)])
  else .iface 92 (.agg #[.int .i64 (hold - sumS ss k), .int .u8 (fitsTo m ss k), .int .u8 (m 0), .int .u8 (m 1), .int .u8 (m 2), .int .u8 (m 3), .int .u8 (m 4), .int .u8 (m 5)])
theorem rvR_zero (m : Nat → Int) (hold : Int) (ss : List Sn) : rvR m hold ss 0 = .iface 61 (.agg #[.int .i64 hold, .int .u8 (m 0), .int .u8 (m 1), .int .u8 (m 2), .int .u8 (m 3), .int .u8 (m 4), .int .u8 (m 5)]) := rfl
theorem rvR_pos (m : Nat → Int) (hold : Int) (ss : List Sn) {k : Nat} (h : 0 < k) : rvR m hold ss k = .iface 92 (.agg #[.int .i64 (hold - sumS ss k), .int .u8 (fitsTo m ss k), .int .u8 (m 0), .int .u8 (m 1), .int .u8 (m 2), .int .u8 (m 3), .int .u8 (m 4), .int .u8 (m 5)]) := if_neg (by omega)
/-- The first q reels behind the first k strands. -/
def rowsR (m : Nat → Int) (hold : Int) (ss : List Sn) (ns : List Int) (k q : Nat) : List Value := (List.range q).map fun (j : Nat) => rvR m hold (subS ss ns (j : Int)) (cntS ns (j : Int) k)
theorem rowsR_length (m : Nat → Int) (hold : Int) (ss : List Sn) (ns : List Int) (k q : Nat) : (rowsR m hold ss ns k q).length = q := by simp [rowsR]
theorem rowsR_get {m : Nat → Int} {hold : Int} {ss : List Sn} {ns : List Int} {k q r : Nat} (h : r < q) : (rowsR m hold ss ns k q)[r]? = some (rvR m hold (subS ss ns (r : Int)) (cntS ns (r : Int) k)) := by
  simp [rowsR, h]
theorem rowsR_app {m : Nat → Int} {hold : Int} {ss : List Sn} {ns : List Int} {k q : Nat} (h0 : ∀ k, 0 ≤ ns.getD k 0) (h : mxS ns k ≤ q) : rowsR m hold ss ns k q ++ [rvR m hold [] 0] = rowsR m hold ss ns k (q + 1) := by
  rw [rowsR, rowsR, List.range_succ, List.map_append, List.map_cons, List.map_nil, mxS_zero h0 k h]
  rfl
theorem rowsR_set {m : Nat → Int} {hold : Int} {ss : List Sn} {ns : List Int} {k q r : Nat} (hr : ns.getD k 0 = (r : Int)) :
    (rowsR m hold ss ns k q).set r (rvR m hold (subS ss ns (r : Int)) (cntS ns (r : Int) k + 1)) = rowsR m hold ss ns (k + 1) q := by
  apply List.ext_getElem?
  intro j
  rw [List.getElem?_set]
  by_cases hj : r = j
  · subst hj
    rw [if_pos rfl, rowsR_length]
    by_cases hq : r < q
    · rw [if_pos hq, rowsR_get hq, cntS, if_pos hr]
    · rw [if_neg hq, List.getElem?_eq_none (by rw [rowsR_length]; omega)]
  · rw [if_neg hj]
    by_cases hq : j < q
    · rw [rowsR_get hq, rowsR_get hq, cntS, if_neg (by omega), Nat.add_zero]
    · rw [List.getElem?_eq_none (by rw [rowsR_length]; omega), List.getElem?_eq_none (by rw [rowsR_length]; omega)]
theorem getD_pos {ns : List Int} (hu : upTo ns 7 = true) (k : Nat) : 0 ≤ ns.getD k 0 := by
  by_cases hk : k < ns.length
  · exact (upTo_get hu k hk).1
  · rw [List.getD, List.getElem?_eq_none (by omega)]; exact Int.le_refl _
theorem dy_sub {ss : List Sn} {ns : List Int} (hl : ns.length = ss.length) (hd : ∀ k, k < ss.length → dy ss k < 6 ∧ (sat ss k).2 = (dy ss k : Int)) (r : Int) (q : Nat) (hq : q < (subS ss ns r).length) : dy (subS ss ns r) q < 6 ∧ (sat (subS ss ns r) q).2 = (dy (subS ss ns r) q : Int) := by
  obtain ⟨k, h1, h2, h3⟩ := subS_from r ss ns hl q hq
  have h4 := (subS_at r ss ns hl k h1 h2).2
  rw [h3] at h4
  have h5 := hd k h1
  unfold dy at *
  rw [h4]
  exact h5
theorem mxS_le {ns : List Int} {n : Nat} (hu : upTo ns 7 = true) (hl : ns.length = n) : ∀ k, k ≤ n → mxS ns k ≤ 8
  | 0, _ => by simp [mxS]
  | k + 1, hk => by
    have ih := mxS_le hu hl k (by omega)
    have := (upTo_get hu k (by omega))
    rw [mxS]
    omega
def lenV : Value → Nat
  | .slice _ n _ => n
  | _ => 0
end Go.Proofs.YtaanjjmochfhgaaDoor
