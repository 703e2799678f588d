/-
  No statement is proved here: holes in the program, a place; conditions as stated.
-/
import Derived.Test.YtopfehbdnopokaaHo
import Derived.Deep.RegionHeld3
import Derived.StillTailTactics
namespace Go.Proofs.Ytopfehbdnopokaa
open Go.ChangeShapes Go.WideShapes Go.ChangeAt Go.RowKit

abbrev hv (h : Nat → Int) : Value := .agg #[.int .u8 (h 0), .int .u8 (h 1), .int .u8 (h 2), .int .u8 (h 3), .int .u8 (h 4), .int .u8 (h 5), .int .u8 (h 6), .int .u8 (h 7)]
/-- Holes in a block. -/
def HAt (w : World) (b : Nat) (h : Nat → Int) : Prop := ∀ j, j < 8 → w.cell? ⟨b, j, none⟩ = some (.int .u8 (h j))
theorem HAt.below {w w' : World} {b : Nat} {h : Nat → Int} (H : HAt w b h) (hB : Below w.heap.size w w') : HAt w' b h := fun j hj => kept hB (World.block_lt_of_cell? w _ (H j hj)) (H j hj)
theorem hat_made (w : World) (T : TypeId) (h : Nat → Int) : HAt (w.alloc (.cells #[.int .u8 (h 0), .int .u8 (h 1), .int .u8 (h 2), .int .u8 (h 3), .int .u8 (h 4), .int .u8 (h 5), .int .u8 (h 6), .int .u8 (h 7)] T)) w.heap.size h := fun j hj => by
  have : j = 0 ∨ j = 1 ∨ j = 2 ∨ j = 3 ∨ j = 4 ∨ j = 5 ∨ j = 6 ∨ j = 7 := by omega
  rcases this with rfl | rfl | rfl | rfl | rfl | rfl | rfl | rfl <;> simp [go_sem]
set_option maxHeartbeats 2000000 in
theorem has_any (h : Nat → Int) (x y : Int) (w : World) (h8 : Bytes8 h) (hx : -9223372036854775808 ≤ x ∧ x ≤ 9223372036854775807) (hy : -9223372036854775808 ≤ y ∧ y ≤ 9223372036854775807) :
    Calls Try.prog 21 #[hv h, .int .i64 x, .int .i64 y] w fun e w' => e = .returned (.bool (hasH h x y)) ∧ Below w.heap.size w w' := by
  by_cases h1 : 0 ≤ x
  · by_cases h2 : x < 8
    · by_cases h3 : 0 ≤ y
      · by_cases h4 : y < 8
        · obtain ⟨m, rfl⟩ : ∃ m : Nat, x = (m : Int) := ⟨x.toNat, by omega⟩
          obtain ⟨k, rfl⟩ : ∃ k : Nat, y = (k : Int) := ⟨y.toNat, by omega⟩
          rw [hasH_in (by omega) (by omega)]
          have c0 := hat_made w 23 h k (by omega)
          go_enter Try.func21, Try.ntmps21
          go_wp2
          go_ret
          exact ⟨ret_bool (and_bit (h8 k (by omega)) (by omega)), by go_grown⟩
        · rw [hasH_out (by omega)]
          go_enter Try.func21, Try.ntmps21
          go_wp2
          go_ret
          exact ⟨rfl, by go_grown⟩
      · rw [hasH_out (by omega)]
        go_enter Try.func21, Try.ntmps21
        go_wp2
        go_ret
        exact ⟨rfl, by go_grown⟩
    · rw [hasH_out (by omega)]
      go_enter Try.func21, Try.ntmps21
      go_wp2
      go_ret
      exact ⟨rfl, by go_grown⟩
  · rw [hasH_out (by omega)]
    go_enter Try.func21, Try.ntmps21
    go_wp2
    go_ret
    exact ⟨rfl, by go_grown⟩

end Go.Proofs.Ytopfehbdnopokaa
